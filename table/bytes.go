package table

import (
	"slices"

	"millhand/api"
	"millhand/block"
	"millhand/code"
	"millhand/sieve"
)

const (
	numberSize = 4
	endSize    = 3 * numberSize
)

// bytesOf is the table of entries that may be and stand in order, however long it is.
func bytesOf(l []api.Entry) []byte {
	var blocks, index []byte
	many := 0
	for rest := l; len(rest) > 0; many++ {
		part := fitting(rest)
		b, _ := block.Write(part)
		blocks = append(blocks, b...)
		index = append(index, code.Text(part[len(part)-1].Key)...)
		index = append(index, code.Small(uint64(len(b)))...)
		rest = rest[len(part):]
	}
	keys, _ := sieve.Make(keysOf(l))
	end := slices.Concat(fourBytes(len(blocks)), fourBytes(len(keys)), fourBytes(len(l)))
	return slices.Concat(blocks, keys, code.Small(uint64(many)), index, end)
}

// keysOf is the keys of entries in order, each once.
func keysOf(l []api.Entry) []string {
	var keys []string
	for _, x := range l {
		keys = append(keys, x.Key)
	}
	return slices.Compact(keys)
}

// opened is the entries that the blocks of b have, which is a table of them or of none; false, if it is surely of none.
func opened(b []byte) ([]api.Entry, bool) {
	if len(b) < endSize {
		return nil, false
	}
	ahead, end := b[:len(b)-endSize], b[len(b)-endSize:]
	blocks, keys := number(end[:numberSize]), number(end[numberSize:])
	if blocks+keys > len(ahead) {
		return nil, false
	}
	return entriesOf(ahead[:blocks], ahead[blocks+keys:])
}

// entriesOf is the entries of all blocks that an index tells of.
func entriesOf(blocks, index []byte) ([]api.Entry, bool) {
	_, size, e := code.Read(index)
	if e != api.OK {
		return nil, false
	}
	index = index[size:]
	var l []api.Entry
	for len(index) > 0 {
		_, rest, e := code.Cut(index)
		if e != api.OK {
			return nil, false
		}
		n, size, e := code.Read(rest)
		// Compared as uint64: a number that was read may be greater than any int.
		if e != api.OK || n > uint64(len(blocks)) {
			return nil, false
		}
		part, e := block.Read(blocks[:n])
		if e != api.OK {
			return nil, false
		}
		l = append(l, part...)
		blocks, index = blocks[n:], rest[size:]
	}
	return l, true
}

func fourBytes(n int) []byte {
	b := make([]byte, numberSize)
	for i := range b {
		b[i] = byte(n >> (8 * i))
	}
	return b
}

// number is what the first four bytes tell, the least first.
func number(b []byte) int {
	n := 0
	for i, c := range b[:numberSize] {
		n |= int(c) << (8 * i)
	}
	return n
}
