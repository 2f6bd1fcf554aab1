package frame_test

import (
	"bytes"
	"encoding/binary"
	"fmt"
	"reflect"
	"slices"
	"testing"

	"millhand/api"
	"millhand/frame"
)

const (
	room     = 107       // bytes of a record in a block
	greatest = 1<<32 - 1 // of all numbers
)

// head is a block's first 21 bytes.
type head struct {
	gen, number, salt, prev uint32
	place, many             uint16
	size                    byte
}

// raw is a block as the chapter tells it, without the help of the package under test; of numbers, too, that no record's block has.
func raw(h head, part []byte) []byte {
	b := make([]byte, 0, 128)
	for _, n := range []uint32{h.gen, h.number, h.salt, h.prev} {
		b = binary.LittleEndian.AppendUint32(b, n)
	}
	b = binary.LittleEndian.AppendUint16(b, h.place)
	b = binary.LittleEndian.AppendUint16(b, h.many)
	b = append(append(b, h.size), part...)
	return append(b, make([]byte, 128-len(b))...)
}

// made are the blocks of a record, by raw.
func made(gen, number, salt, prev uint32, record []byte) [][]byte {
	parts := slices.Collect(slices.Chunk(record, room))
	if len(parts) == 0 {
		parts = [][]byte{nil}
	}
	var l [][]byte
	for i, p := range parts {
		l = append(l, raw(head{gen, number, salt, prev, uint16(i), uint16(len(parts)), byte(len(p))}, p))
	}
	return l
}

// some are so many bytes, none of them 0, that differ by a seed.
func some(many, seed int) []byte {
	b := make([]byte, many)
	for i := range b {
		b[i] = byte(1 + (i*7+seed*13)%255)
	}
	return b
}

// blank are blocks of noughts.
func blank(many int) [][]byte { return filledBy(many, 0) }

// filledBy are blocks of one byte, again and again.
func filledBy(many int, x byte) [][]byte {
	l := make([][]byte, many)
	for i := range l {
		l[i] = bytes.Repeat([]byte{x}, api.Block)
	}
	return l
}

// copied is a list of blocks in memory of its own.
func copied(l [][]byte) [][]byte {
	c := make([][]byte, len(l))
	for i, b := range l {
		c[i] = bytes.Clone(b)
	}
	return c
}

// row is lists of blocks, one behind the other, in memory of its own.
func row(l ...[][]byte) [][]byte { return copied(slices.Concat(l...)) }

func same(a, b [][]byte) bool { return slices.EqualFunc(a, b, bytes.Equal) }

// record is what Open answers.
type record struct {
	bytes  string
	salt   uint32
	blocks int
	e      api.Errno
}

// String keeps a record's bytes out of what a test tells of it: there may be many.
func (r record) String() string {
	return fmt.Sprintf("(%d bytes, salt %d, %d blocks, error %d)", len(r.bytes), r.salt, r.blocks, r.e)
}

func open(gen, number, prev uint32, l [][]byte) record {
	r, salt, blocks, e := frame.Open(gen, number, prev, l)
	return record{string(r), salt, blocks, e}
}

// none is what Open answers where there is no record.
var none = record{e: api.ErrNone}

// framed is what Frame answers without an error.
func framed(t *testing.T, gen, number, salt, prev uint32, record []byte) [][]byte {
	t.Helper()
	l, e := frame.Frame(gen, number, salt, prev, record)
	if e != api.OK {
		t.Fatalf("Frame(%d, %d, %d, %d, of %d bytes): error %d", gen, number, salt, prev, len(record), e)
	}
	return l
}

// logged is what Read answers without an error.
func logged(t *testing.T, gen uint32, l [][]byte) api.Log {
	t.Helper()
	log, e := frame.Read(gen, l)
	if e != api.OK {
		t.Fatalf("Read(%d, %d blocks): error %d", gen, len(l), e)
	}
	return log
}

func sameLog(a, b api.Log) bool {
	return same(a.Records, b.Records) && a.Blocks == b.Blocks && a.Last == b.Last && a.Greatest == b.Greatest
}

// isRecord tells of any blocks, field by field, whether they begin with the blocks of a record, and of which one.
func isRecord(gen, number, prev uint32, l [][]byte) (r record, is bool) {
	if gen == 0 || number == 0 || len(l) == 0 {
		return none, false
	}
	four := binary.LittleEndian.Uint32
	two := binary.LittleEndian.Uint16
	salt, many := four(l[0][8:]), int(two(l[0][18:]))
	if many < 1 || many > len(l) {
		return none, false
	}
	var all []byte
	for i, b := range l[:many] {
		size := int(b[20])
		switch {
		case four(b) != gen, four(b[4:]) != number, four(b[8:]) != salt, four(b[12:]) != prev:
			return none, false
		case int(two(b[16:])) != i, int(two(b[18:])) != many, size > room:
			return none, false
		case i < many-1 && size < room, i == many-1 && i > 0 && size == 0:
			return none, false
		case len(bytes.Trim(b[21+size:], "\x00")) > 0:
			return none, false
		}
		all = append(all, b[21:21+size]...)
	}
	if len(all) > api.MaxRecord {
		return none, false
	}
	return record{string(all), salt, many, api.OK}, true
}

// isLog is the log of any blocks, by isRecord.
func isLog(gen uint32, l [][]byte) (log api.Log) {
	number, rest := uint32(1), l
	for {
		r, is := isRecord(gen, number, log.Last, rest)
		if !is {
			break
		}
		log.Records = append(log.Records, []byte(r.bytes))
		log.Blocks, log.Last = log.Blocks+r.blocks, r.salt
		number, rest = number+1, rest[r.blocks:]
	}
	for _, b := range rest {
		if binary.LittleEndian.Uint32(b) == gen {
			log.Greatest = max(log.Greatest, binary.LittleEndian.Uint32(b[8:]), binary.LittleEndian.Uint32(b[12:]))
		}
	}
	return log
}

func isZero(x any) bool { return reflect.ValueOf(x).IsZero() }
