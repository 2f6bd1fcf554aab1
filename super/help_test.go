package super_test

import (
	"bytes"
	"encoding/binary"
	"testing"

	"millhand/api"
	"millhand/dev"
	"millhand/super"
)

const (
	greatest = 1<<32 - 1 // gen
	maxSize  = 2048
)

// made is a superblock's bytes as the chapter tells them, without the help of the package under test; of numbers, too, that no superblock has.
func made(gen, size uint32) []byte {
	b := make([]byte, 128)
	binary.LittleEndian.PutUint32(b, gen)
	binary.LittleEndian.PutUint32(b[4:], size)
	return b
}

// full is a block of one byte, again and again.
func full(x byte) []byte { return bytes.Repeat([]byte{x}, api.Block) }

// store is a disk on which these two blocks last, so many blocks in all.
func store(many int, zero, one []byte) api.Disk {
	b := make([]byte, many*api.Block)
	copy(b, zero)
	copy(b[api.Block:], one)
	return api.Disk{Data: b}
}

// small is such a disk of as few blocks as a store may have.
func small(zero, one []byte) api.Disk { return store(35, zero, one) }

// must is a disk that was answered without an error.
func must(t *testing.T) func(api.Disk, api.Errno) api.Disk {
	return func(d api.Disk, e api.Errno) api.Disk {
		t.Helper()
		if e != api.OK {
			t.Fatalf("the error %d, not a disk", e)
		}
		return d
	}
}

// told is what Latest and Of answer.
type told struct {
	gen  uint32
	size int
	e    api.Errno
}

func of(b []byte) told {
	gen, size, e := super.Of(b)
	return told{gen, size, e}
}

func latest(d api.Disk) told {
	gen, size, e := super.Latest(d)
	return told{gen, size, e}
}

// none is what Latest answers where there is no superblock.
var none = told{e: api.ErrStore}

// turned is a disk onto which a gen's superblock is written, where it belongs; it waits.
func turned(t *testing.T, d api.Disk, gen uint32, size int) api.Disk {
	t.Helper()
	b, e := super.Block(gen, size)
	if e != api.OK {
		t.Fatalf("Block(%d, %d): error %d", gen, size, e)
	}
	slot, _ := super.Where(gen)
	return must(t)(dev.Write(d, slot, b))
}

// keepOf is what of many waits is kept: those whose bits are set.
func keepOf(bits, many int) []bool {
	keep := make([]bool, many)
	for i := range keep {
		keep[i] = bits>>i&1 != 0
	}
	return keep
}
