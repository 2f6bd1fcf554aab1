package wal_test

import (
	"bytes"
	"strings"
	"testing"

	"millhand/api"
	"millhand/fs"
	"millhand/wal"
)

// three are records; their blocks, of the gen 6, are log's.
func three() [][]byte { return [][]byte{some(3, 1), some(250, 2), nil} }

func log() [][]byte {
	r := three()
	return row(made(6, 1, 4, 0, r[0]), made(6, 2, 9, 4, r[1]), made(6, 3, 7, 9, r[2]))
}

// logs are files with their logs, and how many of three's records they have.
func logs() map[string]struct {
	blocks [][]byte
	want   api.Wal
	many   int
} {
	torn := made(6, 4, 30, 7, some(250, 5))
	return map[string]struct {
		blocks [][]byte
		want   api.Wal
		many   int
	}{
		"two blocks, noughts":        {file(1, blank(1)), api.Wal{Gen: 1}, 0},
		"noughts":                    {file(greatest, blank(7)), api.Wal{Gen: greatest}, 0},
		"one record, no room":        {file(6, made(6, 1, 4, 0, some(3, 1))), api.Wal{Gen: 6, Number: 1, Last: 4, Blocks: 1}, 1},
		"one record":                 {file(6, made(6, 1, 4, 0, some(3, 1)), blank(3)), api.Wal{Gen: 6, Number: 1, Last: 4, Blocks: 1}, 1},
		"three records, no room":     {file(6, log()), api.Wal{Gen: 6, Number: 3, Last: 7, Blocks: 5}, 3},
		"three records":              {file(6, log(), blank(4)), api.Wal{Gen: 6, Number: 3, Last: 7, Blocks: 5}, 3},
		"records of another gen":     {file(5, log(), blank(4)), api.Wal{Gen: 5}, 0},
		"a block that was not kept":  {file(6, log()[:2], blank(1), log()[3:]), api.Wal{Gen: 6, Number: 1, Last: 4, Greatest: 9, Blocks: 1}, 1},
		"the first was not kept":     {file(6, blank(1), log()[1:]), api.Wal{Gen: 6, Greatest: 9}, 0},
		"a torn record":              {file(6, log(), torn[:2], blank(3)), api.Wal{Gen: 6, Number: 3, Last: 7, Greatest: 30, Blocks: 5}, 3},
		"a salt ahead":               {file(6, log(), [][]byte{begun(6, 1, 2, 50), begun(6, 1, 40, 3)}), api.Wal{Gen: 6, Number: 3, Last: 7, Greatest: 50, Blocks: 5}, 3},
		"the greatest salt":          {file(6, log(), [][]byte{begun(6, 1, greatest, 50)}), api.Wal{Gen: 6, Number: 3, Last: 7, Greatest: greatest, Blocks: 5}, 3},
		"old blocks of another gen":  {file(6, log(), made(4, 4, 60, 7, some(250, 5))), api.Wal{Gen: 6, Number: 3, Last: 7, Blocks: 5}, 3},
		"the head's block once more": {file(6, [][]byte{head(6)}, log()), api.Wal{Gen: 6, Greatest: 9}, 0},
		"the file's end cuts one":    {file(6, log()[:2]), api.Wal{Gen: 6, Number: 1, Last: 4, Greatest: 9, Blocks: 1}, 1},
	}
}

func TestOpen(t *testing.T) { // P9.2
	for name, c := range logs() {
		c.want.Name = "log"
		f := holding(t, c.blocks)
		wantLog(t, name, f, c.want, three()[:c.many])
		f = ok[api.Fs](t)(fs.Rename(f, "log", "another"))
		c.want.Name = "another"
		wantLog(t, name+", renamed", f, c.want, three()[:c.many])
	}
}

func TestOpenOfWhatWaits(t *testing.T) { // P9.2: the blocks as they are now
	f := holding(t, file(9, blank(8)))
	for i, b := range file(6, log(), [][]byte{begun(6, 9, 9, 8)}) {
		f = ok[api.Fs](t)(fs.Put(f, "log", i, b))
	}
	wantLog(t, "all waits", f, api.Wal{Name: "log", Gen: 6, Number: 3, Last: 7, Greatest: 9, Blocks: 5}, three())
	f = ok[api.Fs](t)(fs.Put(f, "log", 2, full(0)))
	wantLog(t, "a record is written over", f, api.Wal{Name: "log", Gen: 6, Number: 1, Last: 4, Greatest: 9, Blocks: 1}, three()[:1])
	f = ok[api.Fs](t)(fs.Put(f, "log", 0, head(0)))
	w, l, e := wal.Open(f, "log")
	wantAlone(t, "the head is written over", e, api.ErrBad, w, l)
}

func TestOpenOfParts(t *testing.T) { // P9.2: a file's blocks in its own order, wherever they stand
	f := bare(t, 64)
	for _, name := range []string{"a", "b", "c", "d", "e"} {
		f = ok[api.Fs](t)(fs.Create(f, name, 2))
	}
	f = committed(t, ok[api.Fs](t)(fs.Delete(ok[api.Fs](t)(fs.Delete(f, "b")), "d")))
	f = ok[api.Fs](t)(fs.Create(f, "log", 7)) // two extents of two blocks, and one of three
	for i, b := range file(6, log(), blank(1)) {
		f = ok[api.Fs](t)(fs.Put(f, "log", i, b))
	}
	want := api.Wal{Name: "log", Gen: 6, Number: 3, Last: 7, Blocks: 5}
	wantLog(t, "three extents", f, want, three())
	g, w := longer(t, f, want, some(9, 4))
	wantLog(t, "three extents, appended", g, w, append(three(), some(9, 4)))
}

func TestOpenOfOneBlock(t *testing.T) { // P9.2
	for _, b := range [][]byte{head(1), head(0), head(greatest), full(9), made(1, 1, 1, 0, nil)[0]} {
		w, l, e := wal.Open(holding(t, [][]byte{b}), "log")
		wantAlone(t, "one block", e, api.ErrBad, w, l)
	}
}

func TestOpenOfHeads(t *testing.T) { // P9.2: four bytes of a gen that is not 0, and noughts else
	for _, gen := range []uint32{1, 255, 256, 65536, 1 << 24, 1 << 31, 0x04030201, greatest} {
		wantLog(t, "a gen", holding(t, file(gen, made(gen, 1, 2, 0, some(9, 1)))), api.Wal{Name: "log", Gen: gen, Number: 1, Last: 2, Blocks: 1}, [][]byte{some(9, 1)})
	}
	w, l, e := wal.Open(holding(t, file(0, blank(3))), "log")
	wantAlone(t, "the gen 0", e, api.ErrBad, w, l)
	for i := 4; i < api.Block; i++ {
		for _, gen := range []uint32{0, 1, greatest} {
			b := head(gen)
			b[i] = 1 << (i % 8)
			w, l, e := wal.Open(holding(t, row([][]byte{b}, blank(3))), "log")
			wantAlone(t, "a byte behind the gen", e, api.ErrBad, w, l)
		}
	}
}

func TestOpenErrors(t *testing.T) { // P9.2: fs.Size's error first
	for name, f := range bad(t) {
		for _, x := range []string{"", "log", "none"} {
			w, l, e := wal.Open(f, x)
			wantAlone(t, "Open of files that may not be: "+name, e, api.ErrBad, w, l)
		}
	}
	f := holding(t, file(1, blank(3)))
	for name, want := range map[string]api.Errno{
		"": api.ErrName, strings.Repeat("n", api.MaxName+1): api.ErrName, strings.Repeat("n", api.MaxName): api.ErrNone,
		"lo": api.ErrNone, "log ": api.ErrNone, "Log": api.ErrNone, "ahead": api.ErrBad,
	} {
		w, l, e := wal.Open(f, name)
		wantAlone(t, "Open of "+name, e, want, w, l)
	}
	w, l, e := wal.Open(ok[api.Fs](t)(fs.Delete(f, "log")), "log")
	wantAlone(t, "Open of one that was deleted", e, api.ErrNone, w, l)
}

func TestOpenOfAllBlocks(t *testing.T) { // P9.2: as many blocks as a file may have
	f, w := begin(t, bare(t, api.MaxBlocks, full(8)), "log", api.MaxBlocks-api.First)
	wantLog(t, "all blocks", f, w, nil)
	last := made(w.Gen, 5, 77, 66, nil)[0]
	w.Greatest = 77
	wantLog(t, "the last block counts", ok[api.Fs](t)(fs.Put(f, "log", api.MaxBlocks-api.First-1, last)), w, nil)
}

func TestOpenReadsRecordsWhole(t *testing.T) { // P9.2, W6
	for _, size := range []int{0, 1, 106, 107, 108, 214, 215, 5000, api.MaxRecord} {
		_, l := opened(t, holding(t, file(3, made(3, 1, 1, 0, some(size, 4)), blank(2))), "log")
		if len(l) != 1 || !bytes.Equal(l[0], some(size, 4)) {
			t.Errorf("%d bytes: %d records, or another one", size, len(l))
		}
	}
}
