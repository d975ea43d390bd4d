package raw

import (
	"huckster/api"
	"huckster/wire"
)

// number is the bytes of a number that is not below nought.
func number(n int) []byte { return wire.Num(uint64(n)) }

// signed is the bytes of a number that may be below nought: those that are take the odd numbers.
func signed(n int) []byte {
	if n < 0 {
		return number(-2*n - 1)
	}
	return number(2 * n)
}

func entryBytes(x api.Entry) []byte {
	texts := [][]byte{[]byte(x.Key)}
	for _, d := range x.Live {
		texts = append(texts, number(d.Rep), number(d.Seq))
	}
	return wire.Pack(texts...)
}

func cellBytes(x api.Cell) []byte { return wire.Pack([]byte(x.Key), signed(x.N)) }

func accountBytes(x api.Account) []byte {
	texts := [][]byte{[]byte(x.Key)}
	for _, n := range x.Have {
		texts = append(texts, signed(n))
	}
	return wire.Pack(texts...)
}

func noteBytes(x api.Note) []byte {
	return wire.Pack([]byte(x.Key), number(x.At), number(x.Rep), []byte(x.Word))
}

// appendPacks is texts with a pack of each thing behind them, of each of its keys the bytes that are told of it.
func appendPacks[T any](texts [][]byte, things [][]T, bytesOf func(T) []byte) [][]byte {
	for _, thing := range things {
		var keys [][]byte
		for _, x := range thing {
			keys = append(keys, bytesOf(x))
		}
		texts = append(texts, wire.Pack(keys...))
	}
	return texts
}

// Bytes is its bytes.
func Bytes(k api.Kinds, w api.Raw) ([]byte, api.Errno) {
	plain, e := Plain(k, w)
	if e != api.OK {
		return nil, e
	}
	texts := appendPacks(nil, plain.Sets, entryBytes)
	texts = appendPacks(texts, plain.Tallies, cellBytes)
	texts = appendPacks(texts, plain.Accounts, accountBytes)
	texts = appendPacks(texts, plain.Regs, noteBytes)
	return wire.Pack(texts...), api.OK
}
