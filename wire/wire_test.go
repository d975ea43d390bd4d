package wire

import (
	"bytes"
	"math"
	"slices"
	"testing"

	"huckster/api"
	"huckster/sum"
)

// mixed is n bytes that look like no pattern, the same at every run.
func mixed(n int, seed uint32) []byte {
	b := make([]byte, n)
	for i := range b {
		seed = seed*1664525 + 1013904223
		b[i] = byte(seed >> 24)
	}
	return b
}

// joined is parts one behind the other, in new memory.
func joined(parts ...[]byte) []byte { return slices.Concat(parts...) }

// numbers are numbers at the edges of each count of bytes, and some between, rising.
func numbers() []uint64 {
	l := []uint64{0, 1, 2, 127, 128, 254, 255, 256, 257, 258, 65535, 65536, 65537, math.MaxUint64 - 1, math.MaxUint64}
	for shift := range 64 {
		one := uint64(1) << shift
		l = append(l, one-1, one, one+1, one|one>>1)
	}
	for i := range 64 {
		b := mixed(8, uint32(i))
		l = append(l, value(b)>>(i%64))
	}
	slices.Sort(l)
	return slices.Compact(l)
}

// behinds are what may stand behind.
func behinds() [][]byte {
	return [][]byte{nil, {}, {0}, {1}, {8}, {9}, {255}, {0, 0, 0, 0, 0, 0, 0, 0, 0}, mixed(20, 4)}
}

// record is a record's bytes by the chapter's words alone.
func record(kind byte, size, body []byte) []byte {
	b := joined([]byte{kind}, size, body)
	s := sum.Of(b)
	return append(b, byte(s>>24), byte(s>>16), byte(s>>8), byte(s))
}

// mustRecord is Record's bytes.
func mustRecord(t *testing.T, kind int, body []byte) []byte {
	t.Helper()
	b, e := Record(kind, body)
	if e != api.OK {
		t.Fatalf("Record(%d, %d bytes): %d", kind, len(body), e)
	}
	return b
}

// noRecord fails unless GetRecord tells want of b, and nothing else.
func noRecord(t *testing.T, b []byte, want api.Errno) {
	t.Helper()
	kind, body, n, e := GetRecord(b)
	if e != want || kind != 0 || body != nil || n != 0 {
		t.Errorf("GetRecord(%d bytes, %x) = %d, %x, %d, %d, want the error %d alone", len(b), b[:min(len(b), 12)], kind, body, n, e, want)
	}
}

// Wi1: the chapter's examples, and the edges of each count of bytes.
func TestNum(t *testing.T) {
	for _, c := range []struct {
		u    uint64
		want []byte
	}{
		{0, []byte{0}},
		{1, []byte{1, 1}},
		{255, []byte{1, 255}},
		{256, []byte{2, 1, 0}},
		{258, []byte{2, 1, 2}},
		{65535, []byte{2, 255, 255}},
		{65536, []byte{3, 1, 0, 0}},
		{1 << 24, []byte{4, 1, 0, 0, 0}},
		{1 << 32, []byte{5, 1, 0, 0, 0, 0}},
		{1 << 40, []byte{6, 1, 0, 0, 0, 0, 0}},
		{1 << 48, []byte{7, 1, 0, 0, 0, 0, 0, 0}},
		{0x0102030405060708, []byte{8, 1, 2, 3, 4, 5, 6, 7, 8}},
		{math.MaxUint64, []byte{8, 255, 255, 255, 255, 255, 255, 255, 255}},
	} {
		if got := Num(c.u); !bytes.Equal(got, c.want) {
			t.Errorf("Num(%d) = %v, want %v", c.u, got, c.want)
		}
		if u, n, e := GetNum(c.want); u != c.u || n != len(c.want) || e != api.OK {
			t.Errorf("GetNum(%v) = %d, %d, %d", c.want, u, n, e)
		}
	}
}

// Wi1: what is no number's bytes: more than 8, a nought ahead, an end within.
func TestNoNum(t *testing.T) {
	for _, b := range [][]byte{
		nil, {}, {1}, {2, 1}, {8, 1, 2, 3, 4, 5, 6, 7}, {1, 0}, {2, 0, 2}, {2, 0, 0}, {1, 0, 7}, {3, 0, 1, 1},
		{8, 0, 1, 1, 1, 1, 1, 1, 1}, {9}, {9, 1, 2, 3, 4, 5, 6, 7, 8, 9}, {255}, {9, 0, 0, 0, 0, 0, 0, 0, 0, 1},
		bytes.Repeat([]byte{200}, 300),
	} {
		if u, n, e := GetNum(b); u != 0 || n != 0 || e != api.ErrText {
			t.Errorf("GetNum(%v) = %d, %d, %d", b, u, n, e)
		}
	}
}

// Wi1: every first byte, with more than enough behind it.
func TestNumCounts(t *testing.T) {
	for count := range 256 {
		b := append([]byte{byte(count)}, bytes.Repeat([]byte{1}, 300)...)
		u, n, e := GetNum(b)
		if count > 8 {
			if u != 0 || n != 0 || e != api.ErrText {
				t.Errorf("%d bytes: %d, %d, %d", count, u, n, e)
			}
			continue
		}
		if want := uint64(0x0101010101010101) >> (64 - 8*count); u != want || n != 1+count || e != api.OK {
			t.Errorf("%d bytes: %d, %d, %d", count, u, n, e)
		}
	}
}

// Wi1 and Wi3: numbers got back, whatever stands behind; every beginning is none.
func TestNumBack(t *testing.T) {
	for _, u := range numbers() {
		b := Num(u)
		for _, behind := range behinds() {
			if got, n, e := GetNum(joined(b, behind)); got != u || n != len(b) || e != api.OK {
				t.Errorf("GetNum(Num(%d), %v) = %d, %d, %d", u, behind, got, n, e)
			}
		}
		for cut := range b {
			if got, n, e := GetNum(b[:cut]); got != 0 || n != 0 || e != api.ErrText {
				t.Errorf("GetNum of %d bytes of Num(%d) = %d, %d, %d", cut, u, got, n, e)
			}
		}
	}
}

// Wi3: numbers are in order as their bytes are.
func TestNumOrder(t *testing.T) {
	l := numbers()
	for i, u := range l[1:] {
		if bytes.Compare(Num(l[i]), Num(u)) >= 0 {
			t.Errorf("the bytes of %d are not ahead of those of %d", l[i], u)
		}
	}
	for u := range uint64(70000) {
		if bytes.Compare(Num(u), Num(u+1)) >= 0 {
			t.Errorf("the bytes of %d are not ahead of those of %d", u, u+1)
		}
	}
}

// Wi1: a text's bytes are its number and it.
func TestText(t *testing.T) {
	for _, c := range []struct{ text, want []byte }{
		{nil, []byte{0}},
		{[]byte{}, []byte{0}},
		{[]byte{0}, []byte{1, 1, 0}},
		{[]byte("ab"), []byte{1, 2, 'a', 'b'}},
		{bytes.Repeat([]byte{7}, 255), joined([]byte{1, 255}, bytes.Repeat([]byte{7}, 255))},
		{bytes.Repeat([]byte{7}, 256), joined([]byte{2, 1, 0}, bytes.Repeat([]byte{7}, 256))},
		{make([]byte, api.MaxBytes), joined([]byte{3, 1, 0, 0}, make([]byte, api.MaxBytes))},
		{make([]byte, api.MaxBytes+1), joined([]byte{3, 1, 0, 1}, make([]byte, api.MaxBytes+1))},
	} {
		if got := Text(c.text); !bytes.Equal(got, c.want) {
			t.Errorf("Text of %d bytes: %d bytes, %x", len(c.text), len(got), got[:min(len(got), 8)])
		}
	}
}

// Wi1 and Wi3: texts of up to MaxBytes bytes got back, whatever stands behind.
func TestTextBack(t *testing.T) {
	for _, size := range []int{0, 1, 2, 9, 255, 256, 65535, api.MaxBytes} {
		text := mixed(size, uint32(size))
		for _, behind := range behinds() {
			b := joined(Text(text), behind)
			got, n, e := GetText(b)
			if !bytes.Equal(got, text) || n != len(b)-len(behind) || e != api.OK {
				t.Errorf("a text of %d bytes: %d bytes, %d, %d", size, len(got), n, e)
			}
		}
	}
}

// noText fails unless GetText tells ErrText of b, and nothing else.
func noText(t *testing.T, b []byte) {
	t.Helper()
	if got, n, e := GetText(b); got != nil || n != 0 || e != api.ErrText {
		t.Errorf("GetText(%d bytes, %x) = %d bytes, %d, %d", len(b), b[:min(len(b), 12)], len(got), n, e)
	}
}

// Wi1: what is no text's bytes: no number, an end within, more than MaxBytes bytes.
func TestNoText(t *testing.T) {
	for _, b := range [][]byte{
		nil, {}, {1}, {1, 1}, {1, 0}, {9}, {2, 0, 1, 'a'}, {1, 3, 'a', 'b'}, {2, 1, 0, 'a'}, {3, 1, 0, 0},
		{8, 255, 255, 255, 255, 255, 255, 255, 255}, {8, 255, 255, 255, 255, 255, 255, 255, 255, 'a'},
		{8, 128, 0, 0, 0, 0, 0, 0, 0, 'a'}, {8, 127, 255, 255, 255, 255, 255, 255, 255, 'a'}, {5, 1, 0, 0, 0, 1, 'a'},
		joined([]byte{3, 1, 0, 1}, make([]byte, api.MaxBytes+1)),
		joined([]byte{3, 1, 0, 1}, make([]byte, 2*api.MaxBytes)),
		joined([]byte{3, 1, 0, 0}, make([]byte, api.MaxBytes-1)),
		Text(make([]byte, api.MaxBytes+1)),
	} {
		noText(t, b)
	}
	for _, size := range []int{0, 1, 5, 255, 300} {
		b := Text(mixed(size, 8))
		for cut := range b {
			noText(t, b[:cut])
		}
	}
}

// Wi1: a pack's bytes are how many texts there are, and each one's.
func TestPack(t *testing.T) {
	for _, c := range []struct {
		texts [][]byte
		want  []byte
	}{
		{nil, []byte{0}},
		{[][]byte{}, []byte{0}},
		{[][]byte{nil}, []byte{1, 1, 0}},
		{[][]byte{{}, nil, {}}, []byte{1, 3, 0, 0, 0}},
		{[][]byte{[]byte("ab"), {}, {0}}, []byte{1, 3, 1, 2, 'a', 'b', 0, 1, 1, 0}},
		{make([][]byte, 256), joined([]byte{2, 1, 0}, make([]byte, 256))},
		{[][]byte{make([]byte, 256)}, joined([]byte{1, 1, 2, 1, 0}, make([]byte, 256))},
	} {
		if got := Pack(c.texts...); !bytes.Equal(got, c.want) {
			t.Errorf("Pack of %d texts = %v, want %v", len(c.texts), got, c.want)
		}
	}
}

// packs are lists of texts of many lengths.
func packs() [][][]byte {
	l := [][][]byte{nil, {}, {nil}, {{1}}, {{}, {}, {}}, {[]byte("left"), nil, []byte("right")}, {mixed(api.MaxBytes, 1), {2}}, {Pack([]byte("in"), nil), Num(300)}}
	for i := range 12 {
		var texts [][]byte
		for k := range i {
			texts = append(texts, mixed(k*i*7%300, uint32(i*k)))
		}
		l = append(l, texts)
	}
	return append(l, make([][]byte, 1000))
}

// sameTexts tells whether lists have the same texts.
func sameTexts(a, b [][]byte) bool { return slices.EqualFunc(a, b, bytes.Equal) }

// Wi1 and Wi3: packs got back, whatever stands behind, where most is as many or more.
func TestPackBack(t *testing.T) {
	for _, texts := range packs() {
		b := Pack(texts...)
		for _, most := range []int{len(texts), min(len(texts)+1, 1000), 1000} {
			for _, behind := range behinds() {
				got, n, e := Unpack(joined(b, behind), most)
				if !sameTexts(got, texts) || n != len(b) || e != api.OK {
					t.Errorf("%d texts, most %d: %d texts, %d, %d", len(texts), most, len(got), n, e)
				}
			}
		}
	}
}

// noPack fails unless Unpack tells want, and nothing else.
func noPack(t *testing.T, b []byte, most int, want api.Errno) {
	t.Helper()
	if got, n, e := Unpack(b, most); got != nil || n != 0 || e != want {
		t.Errorf("Unpack(%d bytes, %x, %d) = %d texts, %d, %d, want the error %d alone", len(b), b[:min(len(b), 12)], most, len(got), n, e, want)
	}
}

// Wi1: most is 0 to 1000; that is asked ahead of what bytes say.
func TestUnpackMost(t *testing.T) {
	for _, most := range []int{-1, 1001, -1000, math.MinInt, math.MaxInt, 1 << 32} {
		for _, b := range [][]byte{nil, {9}, {0}, {1, 1, 0}, Pack(make([][]byte, 1001)...)} {
			noPack(t, b, most, api.ErrArg)
		}
	}
	if got, n, e := Unpack([]byte{0}, 0); len(got) != 0 || n != 1 || e != api.OK {
		t.Errorf("no texts, most 0: %d texts, %d, %d", len(got), n, e)
	}
}

// Wi1: more texts than most, and one fewer.
func TestUnpackTooMany(t *testing.T) {
	for _, count := range []int{1, 2, 3, 255, 256, 1000, 1001} {
		noPack(t, Pack(make([][]byte, count)...), count-1, api.ErrText)
	}
	noPack(t, Pack(make([][]byte, 1001)...), 1000, api.ErrText)
	noPack(t, Pack(nil), 0, api.ErrText)
	noPack(t, []byte{8, 255, 255, 255, 255, 255, 255, 255, 255, 0, 0}, 1000, api.ErrText)
	noPack(t, []byte{8, 128, 0, 0, 0, 0, 0, 0, 0, 0, 0}, 1000, api.ErrText)
	noPack(t, []byte{5, 1, 0, 0, 0, 1, 0, 0}, 1000, api.ErrText)
}

// Wi1: what is no pack's bytes: no number, a text that is none, an end within.
func TestNoPack(t *testing.T) {
	for _, b := range [][]byte{
		nil, {}, {9}, {1}, {1, 0}, {1, 1}, {1, 2, 0}, {1, 1, 1, 0}, {1, 1, 9}, {1, 2, 0, 1, 2, 'a'}, {2, 0, 1, 0},
		Pack([]byte("a"), make([]byte, api.MaxBytes+1)),
	} {
		noPack(t, b, 1000, api.ErrText)
	}
	for _, texts := range packs()[:6] {
		b := Pack(texts...)
		for cut := range b {
			noPack(t, b[:cut], 1000, api.ErrText)
		}
	}
}

// Wi2: a record's bytes are its Kind, its body's as a text's, and the sum of them.
func TestRecord(t *testing.T) {
	for _, c := range []struct {
		kind int
		body []byte
		size []byte
	}{
		{1, nil, []byte{0}},
		{2, []byte{}, []byte{0}},
		{7, []byte{1, 2}, []byte{1, 2}},
		{200, mixed(255, 1), []byte{1, 255}},
		{100, mixed(256, 2), []byte{2, 1, 0}},
		{128, mixed(65535, 3), []byte{2, 255, 255}},
		{10, mixed(api.MaxBytes, 4), []byte{3, 1, 0, 0}},
	} {
		want := record(byte(c.kind), c.size, c.body)
		if got := mustRecord(t, c.kind, c.body); !bytes.Equal(got, want) {
			t.Errorf("Record(%d, %d bytes): %d bytes, %x", c.kind, len(c.body), len(got), got[:min(len(got), 8)])
		}
	}
	// Worked out apart from the sum's package.
	if got, want := mustRecord(t, 7, []byte{1, 2}), []byte{7, 1, 2, 1, 2, 0x47, 0x4b, 0x56, 0x7c}; !bytes.Equal(got, want) {
		t.Errorf("Record(7, 1 2) = %x, want %x", got, want)
	}
}

// Wi2: Kinds of 1 to 200 alone, bodies of MaxBytes bytes at most.
func TestNoSuchRecord(t *testing.T) {
	for _, kind := range []int{0, -1, 201, 255, 256, 257, 456, 1 << 32, 1<<32 + 1, math.MinInt, math.MaxInt} {
		if b, e := Record(kind, []byte{1}); b != nil || e != api.ErrArg {
			t.Errorf("Record(%d, 1 byte) = %x, %d", kind, b, e)
		}
	}
	for _, size := range []int{api.MaxBytes + 1, 2 * api.MaxBytes} {
		if b, e := Record(1, make([]byte, size)); b != nil || e != api.ErrArg {
			t.Errorf("Record(1, %d bytes) = %d bytes, %d", size, len(b), e)
		}
	}
	for kind := -3; kind <= 300; kind++ {
		if _, e := Record(kind, nil); (e == api.OK) != (kind >= 1 && kind <= 200) {
			t.Errorf("Record(%d, no bytes): %d", kind, e)
		}
	}
}

// Wi2 and Wi3: records got back, whatever stands behind.
func TestRecordBack(t *testing.T) {
	for _, size := range []int{0, 1, 2, 255, 256, 1000, 65535, api.MaxBytes} {
		for _, kind := range []int{1, 2, 7, 127, 128, 200} {
			body := mixed(size, uint32(kind))
			b := mustRecord(t, kind, body)
			for _, behind := range append(behinds(), b) {
				k, got, n, e := GetRecord(joined(b, behind))
				if k != kind || !bytes.Equal(got, body) || n != len(b) || e != api.OK {
					t.Errorf("Kind %d, %d bytes: %d, %d bytes, %d, %d", kind, size, k, len(got), n, e)
				}
			}
		}
	}
}

// Wi2 and Wi3: of every beginning of a record GetRecord tells ErrNone.
func TestRecordBeginnings(t *testing.T) {
	noRecord(t, nil, api.ErrNone)
	noRecord(t, []byte{}, api.ErrNone)
	for _, size := range []int{0, 1, 2, 255, 256, 600} {
		for _, kind := range []int{1, 77, 200} {
			b := mustRecord(t, kind, mixed(size, 6))
			for cut := range b {
				noRecord(t, b[:cut], api.ErrNone)
			}
		}
	}
	great := mustRecord(t, 9, mixed(api.MaxBytes, 6))
	for _, cut := range []int{0, 1, 2, 3, 4, 5, 6, 1000, len(great) - 5, len(great) - 4, len(great) - 3, len(great) - 1} {
		noRecord(t, great[:cut], api.ErrNone)
	}
}

// Wi2: a Kind that is none is told, however much b has.
func TestRecordKinds(t *testing.T) {
	for kind := range 256 {
		want := api.ErrText
		if kind >= 1 && kind <= 200 {
			want = api.ErrNone
		}
		noRecord(t, []byte{byte(kind)}, want)
		noRecord(t, []byte{byte(kind), 1}, want)
		noRecord(t, []byte{byte(kind), 1, 2, 7, 7}, want)
		if want == api.ErrText {
			noRecord(t, record(byte(kind), []byte{0}, nil), api.ErrText)
			noRecord(t, record(byte(kind), []byte{1, 2}, []byte{1, 2}), api.ErrText)
		}
	}
}

// Wi2: each byte of the body's number, as far as b has them, is held against all that may be.
func TestRecordSizes(t *testing.T) {
	may := map[[4]byte]int{}
	for size := range api.MaxBytes + 1 {
		b := Num(uint64(size))
		for n := 1; n <= len(b); n++ {
			may[padded(b[:n])] |= 1 << n
		}
	}
	ask := func(b []byte) {
		want := api.ErrText
		if may[padded(b)]>>len(b)&1 == 1 {
			want = api.ErrNone
		}
		noRecord(t, append([]byte{7}, b...), want)
	}
	edges := []byte{0, 1, 2, 127, 128, 255}
	for count := range 256 {
		ask([]byte{byte(count)})
		if count > 0 && count <= 3 {
			for a := range 256 {
				ask([]byte{byte(count), byte(a)})
			}
		}
	}
	for _, a := range edges {
		for _, b := range edges {
			ask([]byte{2, a, b})
			ask([]byte{3, a, b})
			for _, c := range edges {
				ask([]byte{3, a, b, c})
			}
		}
	}
}

// padded is bytes as a key.
func padded(b []byte) (key [4]byte) {
	copy(key[:], b)
	return key
}

// Wi2: numbers of more than MaxBytes, or with a nought ahead, are told though the sum fits.
func TestRecordWrongSizes(t *testing.T) {
	noRecord(t, record(7, []byte{3, 1, 0, 1}, make([]byte, api.MaxBytes+1)), api.ErrText)
	noRecord(t, record(7, []byte{4, 0, 1, 0, 0}, make([]byte, api.MaxBytes)), api.ErrText)
	for _, size := range [][]byte{{1, 0}, {2, 0, 0}, {8, 0, 0, 0, 0, 0, 0, 0, 0}, {9, 0}, {255}} {
		noRecord(t, record(7, size, nil), api.ErrText)
	}
	for _, size := range [][]byte{{2, 0, 2}, {3, 0, 0, 2}, {8, 0, 0, 0, 0, 0, 0, 0, 2}, {4, 1, 0, 0, 2}, {8, 255, 255, 255, 255, 255, 255, 255, 255}} {
		noRecord(t, record(7, size, []byte{1, 2}), api.ErrText)
	}
}

// Wi2: every byte of a record turned to every other one: it is no record, and none that ends early, but where its number says that more is to come.
func TestRecordOneByteWrong(t *testing.T) {
	for _, size := range []int{0, 1, 2, 40, 300} {
		b := mustRecord(t, 7, mixed(size, 2))
		numberEnds := 1 + len(Num(uint64(size)))
		for at := range b {
			for turn := 1; turn < 256; turn++ {
				wrong := slices.Clone(b)
				wrong[at] ^= byte(turn)
				if at == 0 || at >= numberEnds {
					noRecord(t, wrong, api.ErrText)
					continue
				}
				if k, body, n, e := GetRecord(wrong); k != 0 || body != nil || n != 0 || e != api.ErrText && e != api.ErrNone {
					t.Errorf("byte %d turned by %x: %d, %x, %d, %d", at, turn, k, body, n, e)
				}
				if e := errorOf(joined(wrong, make([]byte, api.MaxBytes))); e != api.ErrText {
					t.Errorf("byte %d turned by %x, enough behind: %d", at, turn, e)
				}
			}
		}
	}
}

// errorOf is what GetRecord tells of b.
func errorOf(b []byte) api.Errno {
	_, _, _, e := GetRecord(b)
	return e
}

// Wi2: the sum is asked when all its bytes are there: while b ends within the sum, it ends within the record.
func TestRecordEndsWithinSum(t *testing.T) {
	b := mustRecord(t, 7, []byte{1, 2})
	for cut := len(b) - 4; cut < len(b); cut++ {
		wrong := slices.Clone(b[:cut])
		wrong[3] ^= 1
		noRecord(t, wrong, api.ErrNone)
	}
	whole := slices.Clone(b)
	whole[3] ^= 1
	noRecord(t, whole, api.ErrText)
	noRecord(t, joined(whole, b), api.ErrText)
}

// Wi2: the sum is that of Kind, number and body, the highest byte first.
func TestRecordOtherSums(t *testing.T) {
	b := mustRecord(t, 7, []byte{1, 2})
	head, s := b[:5], b[5:]
	noRecord(t, joined(head, []byte{s[3], s[2], s[1], s[0]}), api.ErrText)
	noRecord(t, joined(head, []byte{0, 0, 0, 0}), api.ErrText)
	of := sum.Of([]byte{1, 2})
	noRecord(t, joined(head, []byte{byte(of >> 24), byte(of >> 16), byte(of >> 8), byte(of)}), api.ErrText)
}

// R3: what is handed in stays as it is, and what is answered is new memory.
func TestNewMemory(t *testing.T) {
	text := mixed(30, 1)
	for _, put := range [][]byte{Text(text), Pack(text, text), mustRecord(t, 7, text)} {
		clear(put)
	}
	if !bytes.Equal(text, mixed(30, 1)) {
		t.Error("a text was written to, or is shared")
	}
	texts := [][]byte{text, nil, text}
	Pack(texts...)
	if len(texts) != 3 || &texts[0][0] != &text[0] || texts[1] != nil {
		t.Error("a list was written to")
	}
	for _, c := range []struct {
		name string
		b    []byte
		get  func(b []byte) []byte
	}{
		{"GetText", Text(text), func(b []byte) []byte { got, _, _ := GetText(b); return got }},
		{"Unpack", Pack(text, text), func(b []byte) []byte { got, _, _ := Unpack(b, 9); return got[0] }},
		{"GetRecord", mustRecord(t, 7, text), func(b []byte) []byte { _, got, _, _ := GetRecord(b); return got }},
	} {
		before := slices.Clone(c.b)
		got := c.get(c.b)
		_ = append(got, 99)
		clear(got)
		if !bytes.Equal(c.b, before) {
			t.Errorf("%s shares or writes what it was handed", c.name)
		}
	}
}

// R3: no two texts of a pack share memory.
func TestUnpackTextsApart(t *testing.T) {
	got, _, e := Unpack(Pack([]byte("left"), []byte("right")), 2)
	if e != api.OK || len(got) != 2 {
		t.Fatalf("Unpack: %d texts, %d", len(got), e)
	}
	_ = append(got[0], 'x', 'y', 'z')
	clear(got[0])
	if string(got[1]) != "right" {
		t.Errorf("the second text became %q", got[1])
	}
}

// R4: bytes with room behind them are put behind nothing of it.
func TestRoomBehindIsLeft(t *testing.T) {
	room := []byte("abcdef")
	Text(room[:2])
	Pack(room[:2], room[1:3])
	mustRecord(t, 7, room[:2])
	if string(room) != "abcdef" {
		t.Errorf("what stood behind became %q", room)
	}
}

// P1: no call panics, and what is got is what would be put, whatever the bytes are.
func TestAnyBytes(t *testing.T) {
	for i := range uint32(20000) {
		b := mixed(int(i%40), i)
		for k := range b {
			// Small bytes, so that many are numbers, texts and packs.
			if i%2 == 0 {
				b[k] %= 5
			}
		}
		if u, n, e := GetNum(b); e == api.OK && !bytes.Equal(Num(u), b[:n]) {
			t.Errorf("GetNum(%v) = %d, %d", b, u, n)
		}
		if text, n, e := GetText(b); e == api.OK && !bytes.Equal(Text(text), b[:n]) {
			t.Errorf("GetText(%v) = %v, %d", b, text, n)
		}
		if l, n, e := Unpack(b, 1000); e == api.OK && !bytes.Equal(Pack(l...), b[:n]) {
			t.Errorf("Unpack(%v) = %v, %d", b, l, n)
		}
		if kind, body, n, e := GetRecord(b); e == api.OK && !bytes.Equal(mustRecord(t, kind, body), b[:n]) {
			t.Errorf("GetRecord(%v) = %d, %v, %d", b, kind, body, n)
		}
	}
}
