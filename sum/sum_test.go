package sum

import (
	"bytes"
	"hash/crc32"
	"math/bits"
	"slices"
	"strconv"
	"testing"
)

// mixed is n bytes that look like no pattern, the same at every run.
func mixed(n int, seed uint32) []byte {
	b := make([]byte, n)
	for i := range b {
		seed = seed*1664525 + 1013904223
		b[i] = byte(seed >> 24)
	}
	return b
}

// samples are bytes of many lengths and shapes.
func samples() [][]byte {
	all := [][]byte{
		nil,
		{},
		{0},
		{0xff},
		{0, 0, 0, 0},
		{0xff, 0xff, 0xff, 0xff},
		{0x80},
		{0x01},
		[]byte("123456789"),
		[]byte("a shop's cart"),
		bytes.Repeat([]byte{0}, 100),
		bytes.Repeat([]byte{0xff}, 100),
		mixed(1<<16, 5),
	}
	for n := range 40 {
		all = append(all, mixed(n, uint32(n)))
	}
	for c := range 256 {
		all = append(all, []byte{byte(c)})
	}
	return all
}

// byLibrary is the sum by the library's, whose bits go the other way.
func byLibrary(b []byte) uint32 {
	mirrored := make([]byte, len(b))
	for i, c := range b {
		mirrored[i] = bits.Reverse8(c)
	}
	return bits.Reverse32(crc32.ChecksumIEEE(mirrored))
}

// withSum is b with its own sum behind it, the highest byte first.
func withSum(b []byte) []byte {
	s := Of(b)
	return append(slices.Clone(b), byte(s>>24), byte(s>>16), byte(s>>8), byte(s))
}

// turned is b with those bits turned that pattern has, its highest bit (of width) at the bit from on, counted from each byte's highest bit on.
func turned(b []byte, from int, pattern uint64, width int) []byte {
	out := slices.Clone(b)
	for i := range width {
		if pattern>>(width-1-i)&1 == 1 {
			at := from + i
			out[at/8] ^= 0x80 >> (at % 8)
		}
	}
	return out
}

func hex(n uint32) string { return strconv.FormatUint(uint64(n), 16) }

// Su1: the chapter's example.
func TestExample(t *testing.T) {
	if got := Of([]byte("123456789")); got != 0xFC891918 {
		t.Errorf("Of(123456789) = %s", hex(got))
	}
	if got := On(0, []byte("123456789")); got != 0xFC891918 {
		t.Errorf("On(0, 123456789) = %s", hex(got))
	}
}

// Su1: no parts, and empty ones, are no bytes, whose sum is 0.
func TestNoBytes(t *testing.T) {
	for i, got := range []uint32{
		Of(), Of(nil), Of([]byte{}), Of(nil, []byte{}, nil), Of([][]byte{}...), On(0, nil), On(0, []byte{}),
	} {
		if got != 0 {
			t.Errorf("case %d: the sum of no bytes = %s", i, hex(got))
		}
	}
}

// Su1: no byte behind changes no sum, whatever it is.
func TestOnNothing(t *testing.T) {
	for _, s := range []uint32{0, 1, 0x80000000, 0xFFFFFFFF, 0x04C11DB7, 0xFC891918} {
		if On(s, nil) != s || On(s, []byte{}) != s {
			t.Errorf("On(%s, no bytes) is another", hex(s))
		}
	}
}

// Su1: against a sum that is worked out in another way.
func TestAgainstLibrary(t *testing.T) {
	for _, b := range samples() {
		if got, want := Of(b), byLibrary(b); got != want {
			t.Errorf("Of(%d bytes, %x) = %s, want %s", len(b), b[:min(len(b), 8)], hex(got), hex(want))
		}
	}
}

// Su1: parts are summed one behind the other, in their order.
func TestOrderOfParts(t *testing.T) {
	a, b := []byte("left"), []byte("right")
	if Of(a, b) != Of([]byte("leftright")) {
		t.Error("Of(left, right) is not that of leftright")
	}
	if Of(b, a) != Of([]byte("rightleft")) {
		t.Error("Of(right, left) is not that of rightleft")
	}
	if Of(a, b) == Of(b, a) {
		t.Error("the order of parts does not matter")
	}
}

// Su1: On from the sum of every beginning, that of no bytes too.
func TestOnGoesOn(t *testing.T) {
	for _, b := range [][]byte{[]byte("123456789"), mixed(70, 3), make([]byte, 20)} {
		whole := byLibrary(b)
		for cut := range len(b) + 1 {
			if got := On(Of(b[:cut]), b[cut:]); got != whole {
				t.Errorf("On behind %d of %d bytes = %s, want %s", cut, len(b), hex(got), hex(whole))
			}
		}
	}
}

// Su1: every number is the sum of some bytes, so On goes on from every one.
func TestOnFromAnySum(t *testing.T) {
	reached := map[uint32][]byte{}
	for i := range 300 {
		b := mixed(4, uint32(i)*7919)
		reached[byLibrary(b)] = b
	}
	for s, b := range reached {
		for _, more := range [][]byte{nil, {0}, {0xff}, []byte("more")} {
			if got, want := On(s, more), byLibrary(append(slices.Clone(b), more...)); got != want {
				t.Errorf("On(%s, %x) = %s, want %s", hex(s), more, hex(got), hex(want))
			}
		}
	}
}

// Su2: every way to part a few bytes, empty parts between them too.
func TestParted(t *testing.T) {
	b := []byte("123456789")
	for cuts := range 1 << (len(b) - 1) {
		var parts, gaps [][]byte
		from := 0
		for i := 1; i <= len(b); i++ {
			if i == len(b) || cuts>>(i-1)&1 == 1 {
				parts = append(parts, b[from:i])
				gaps = append(gaps, nil, b[from:i], []byte{})
				from = i
			}
		}
		if got := Of(parts...); got != 0xFC891918 {
			t.Errorf("%d parts: %s", len(parts), hex(got))
		}
		if got := Of(gaps...); got != 0xFC891918 {
			t.Errorf("%d parts, some empty: %s", len(gaps), hex(got))
		}
	}
}

// Su2: bits turned within 32 in a row, at every place, across bytes too.
func TestTurnedBits(t *testing.T) {
	patterns := []uint64{1 << 31, 1<<31 | 1, 0xFFFFFFFF, 0xFF000000, 0x01800000, 0x80808080, 0x84C11DB7, 0x04C11DB7, 0xEDB88320}
	for _, b := range mixedAll(4, 32, 77) {
		patterns = append(patterns, uint64(b[0])<<24|uint64(b[1])<<16|uint64(b[2])<<8|uint64(b[3])|1)
	}
	for _, b := range [][]byte{make([]byte, 12), []byte("123456789"), mixed(40, 9)} {
		s := Of(b)
		for from := range len(b)*8 - 31 {
			for _, p := range patterns {
				if Of(turned(b, from, p, 32)) == s {
					t.Errorf("%d bytes, %x turned from bit %d on: the same sum", len(b), p, from)
				}
			}
		}
	}
}

// mixedAll is count times n bytes.
func mixedAll(n, count int, seed uint32) [][]byte {
	var all [][]byte
	for i := range count {
		all = append(all, mixed(n, seed+uint32(i)))
	}
	return all
}

// Su2: all bits turned of a few, in every way, in bytes too short to hold 32.
func TestTurnedShort(t *testing.T) {
	for _, b := range [][]byte{{0, 0}, {0x12, 0x34}, {0xff, 0xff}} {
		sums := map[uint32]int{}
		for p := range 1 << 16 {
			sums[Of(turned(b, 0, uint64(p), 16))]++
		}
		if len(sums) != 1<<16 {
			t.Errorf("%x: %d sums of %d", b, len(sums), 1<<16)
		}
	}
}

// Su2's edge: 33 in a row may keep the sum, by the very bits that the register is turned by; bits are counted from each byte's highest on.
func TestThirtyThreeInARow(t *testing.T) {
	for _, b := range [][]byte{make([]byte, 9), []byte("123456789")} {
		for from := range len(b)*8 - 32 {
			if Of(turned(b, from, 0x104C11DB7, 33)) != Of(b) {
				t.Errorf("from bit %d on: another sum", from)
			}
		}
	}
}

// Su2: bytes with their own sum behind them all have one sum.
func TestOwnSumBehind(t *testing.T) {
	want := Of(withSum(nil))
	if want != byLibrary([]byte{0, 0, 0, 0}) {
		t.Errorf("no bytes with their sum behind them: %s", hex(want))
	}
	for _, b := range samples() {
		if got := Of(withSum(b)); got != want {
			t.Errorf("%d bytes with their sum behind them: %s, want %s", len(b), hex(got), hex(want))
		}
		behind := withSum(b)[len(b):]
		if got := On(Of(b), behind); got != want {
			t.Errorf("On of %d bytes' sum, and it: %s, want %s", len(b), hex(got), hex(want))
		}
	}
}

// R3: what is handed in stays as it is.
func TestNothingIsWritten(t *testing.T) {
	a, b := mixed(30, 1), mixed(30, 2)
	parts := [][]byte{a, nil, b}
	Of(parts...)
	On(7, a)
	if !bytes.Equal(a, mixed(30, 1)) || !bytes.Equal(b, mixed(30, 2)) {
		t.Error("bytes were written to")
	}
	if len(parts) != 3 || &parts[0][0] != &a[0] || parts[1] != nil || &parts[2][0] != &b[0] {
		t.Error("parts were written to")
	}
}
