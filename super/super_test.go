package super_test

import (
	"bytes"
	"testing"

	"millhand/api"
	"millhand/super"
)

// gens are the edges of gens, and some between, each of whose bytes tells its place.
var gens = []uint32{1, 2, 3, 127, 128, 255, 256, 258, 65535, 65536, 1 << 24, 0x01020304, 1<<31 - 1, 1 << 31, greatest - 1, greatest}

func TestBlock(t *testing.T) { // P3.1
	for _, gen := range gens {
		for _, size := range []int{0, 1, 5, 127, 128, 255, 256, 258, 2047, maxSize} {
			b, e := super.Block(gen, size)
			if e != api.OK || !bytes.Equal(b, made(gen, uint32(size))) {
				t.Errorf("Block(%d, %d): %v, error %d", gen, size, b, e)
			}
		}
	}
	for name, c := range map[string]struct {
		gen  uint32
		size int
	}{
		"gen 0":                               {0, 5},
		"gen 0, size 0":                       {0, 0},
		"gen 0, the greatest size":            {0, maxSize},
		"gen 0, a size beyond":                {0, maxSize + 1},
		"a size below":                        {1, -1},
		"a size beyond":                       {1, maxSize + 1},
		"a size far below":                    {greatest, -1 << 63},
		"a size far beyond":                   {greatest, 1<<63 - 1},
		"a size whose four bytes would be":    {1, 1<<32 + 5},
		"a size whose four bytes would be 0":  {1, 1 << 32},
		"a size below whose bytes would be 5": {1, -1<<32 + 5},
	} {
		if b, e := super.Block(c.gen, c.size); e != api.ErrArg || b != nil {
			t.Errorf("Block of %s: %v, error %d", name, b, e)
		}
	}
}

func TestOf(t *testing.T) { // P3.1
	for _, gen := range gens {
		for _, size := range []int{0, 1, 5, 258, 2047, maxSize} {
			if got := of(made(gen, uint32(size))); got != (told{gen, size, api.OK}) {
				t.Errorf("Of the superblock %d, %d: %v", gen, size, got)
			}
		}
	}
	whole := append(made(3, 5), made(3, 5)...)
	for _, n := range []int{0, 1, 4, 8, 126, 127, 129, 130, 255, 256} { // any number of bytes but 128
		if got := of(whole[:n]); got != (told{e: api.ErrText}) {
			t.Errorf("Of %d bytes: %v", n, got)
		}
	}
	if got := of(nil); got != (told{e: api.ErrText}) {
		t.Errorf("Of nil: %v", got)
	}
	for name, b := range map[string][]byte{
		"noughts":                 full(0),
		"ones":                    full(1),
		"the greatest bytes":      full(255),
		"gen 0":                   made(0, 5),
		"gen 0, greatest size":    made(0, maxSize),
		"a size beyond":           made(1, maxSize+1),
		"a size of 4096":          made(1, 4096),
		"a size of three bytes":   made(1, 1<<16),
		"a size of four bytes":    made(1, 1<<24),
		"a size beyond 31 bits":   made(1, 1<<31),
		"a size of -1":            made(1, 1<<32-1),
		"a size of -1 and gen -1": made(greatest, 1<<32-1),
	} {
		if got := of(b); got != (told{e: api.ErrBad}) {
			t.Errorf("Of %s: %v", name, got)
		}
	}
}

func TestOfByteBehindTheSize(t *testing.T) { // P3.1: at each place, any byte but a nought
	for at := 8; at < api.Block; at++ {
		for x := 1; x < 256; x++ {
			b := made(258, 5)
			b[at] = byte(x)
			if got := of(b); got != (told{e: api.ErrBad}) {
				t.Fatalf("Of a superblock with %d at %d: %v", x, at, got)
			}
		}
	}
}

func TestWhere(t *testing.T) { // P3.1, of any gen
	for gen, want := range map[uint32][2]int{
		0: {0, 2}, 1: {1, 18}, 2: {0, 2}, 3: {1, 18}, 4: {0, 2}, 5: {1, 18},
		255: {1, 18}, 256: {0, 2}, 258: {0, 2}, 65537: {1, 18},
		1<<31 - 1: {1, 18}, 1 << 31: {0, 2}, 1<<31 + 1: {1, 18}, greatest - 1: {0, 2}, greatest: {1, 18},
	} {
		if slot, area := super.Where(gen); slot != want[0] || area != want[1] {
			t.Errorf("Where(%d): %d, %d", gen, slot, area)
		}
	}
}

func TestThereAndBack(t *testing.T) { // P3.4, W6: what was written is read back
	for _, gen := range gens {
		for size := range maxSize + 1 {
			b, e := super.Block(gen, size)
			if got := of(b); e != api.OK || got != (told{gen, size, api.OK}) {
				t.Fatalf("Block(%d, %d), read: %v, error %d", gen, size, got, e)
			}
		}
	}
	for gen := uint32(1); gen < 1<<16; gen++ {
		b, e := super.Block(gen, 7)
		if got := of(b); e != api.OK || got != (told{gen, 7, api.OK}) {
			t.Fatalf("Block(%d, 7), read: %v, error %d", gen, got, e)
		}
	}
}

func TestNothingElseIsRead(t *testing.T) { // P3.4: what is read is what Block writes of the two numbers that are told; what is not, is of no two
	for _, first := range [][]byte{made(1, 0), made(258, 5), made(greatest, maxSize), made(256, 2047), full(0)} {
		for at := range api.Block {
			for x := range 256 {
				b := bytes.Clone(first)
				b[at] = byte(x)
				nothingElse(t, b)
			}
		}
	}
	for at := range api.Block { // two bytes at a time
		for next := range 12 {
			for _, x := range []byte{1, 8, 128, 255} {
				b := made(1, 5)
				b[at] ^= x
				b[next] ^= x
				nothingElse(t, b)
			}
		}
	}
}

// nothingElse holds what Of tells of a block against what the chapter's words make of its bytes.
func nothingElse(t *testing.T, b []byte) {
	t.Helper()
	gen := uint32(b[0]) | uint32(b[1])<<8 | uint32(b[2])<<16 | uint32(b[3])<<24
	size := int(b[4]) + int(b[5])*256 + int(b[6])*256*256 + int(b[7])*256*256*256
	want := told{e: api.ErrBad}
	if gen != 0 && size <= maxSize && bytes.Count(b[8:], []byte{0}) == api.Block-8 {
		want = told{gen, size, api.OK}
	}
	if got := of(b); got != want {
		t.Fatalf("Of %v: %v, not %v", b, got, want)
	}
	again, e := super.Block(gen, size)
	if (e == api.OK && bytes.Equal(again, b)) != (want.e == api.OK) {
		t.Fatalf("Block(%d, %d): error %d, and %v", gen, size, e, again)
	}
}

func TestNeighboursDoNotMeet(t *testing.T) { // P3.4: nor with the superblocks, nor with the blocks of files
	for _, first := range []uint32{0, 1, 2, 254, 255, 65535, 1<<31 - 1, 1 << 31, greatest - 2, greatest - 1, greatest} {
		var taken [api.First]int
		for _, gen := range []uint32{first, first + 1} { // the greatest one's is 0: Where tells of any gen
			slot, area := super.Where(gen)
			if slot < 0 || slot > 1 || area < 2 || area+api.DirBlocks > api.First {
				t.Fatalf("Where(%d): %d, %d", gen, slot, area)
			}
			taken[slot]++
			for n := area; n < area+api.DirBlocks; n++ {
				taken[n]++
			}
		}
		for n, times := range taken {
			if times != 1 {
				t.Errorf("the gens from %d on: block %d is taken %d times", first, n, times)
			}
		}
	}
}
