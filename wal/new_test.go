package wal_test

import (
	"strings"
	"testing"

	"millhand/api"
	"millhand/fs"
	"millhand/wal"
)

// wantNew looks whether New makes just the file, puts just the gen into its block 0, and tells a log without records.
func wantNew(t *testing.T, row string, f api.Fs, name string, blocks int, gen uint32) {
	t.Helper()
	g, w, e := wal.New(f, name, blocks)
	want := ok[api.Fs](t)(fs.Put(ok[api.Fs](t)(fs.Create(f, name, blocks)), name, 0, head(gen)))
	if e != api.OK || !sameFs(g, want) {
		t.Errorf("%s: error %d, or other files", row, e)
	}
	if w != (api.Wal{Name: name, Gen: gen}) {
		t.Errorf("%s: the log %v, not one of the gen %d without records", row, w, gen)
	}
	wantLog(t, row, g, w, nil)
}

func TestNew(t *testing.T) { // P9.1
	for _, blocks := range []int{2, 3, 17, 29, 30} {
		wantNew(t, "on noughts", bare(t, 64), "log", blocks, 1)
	}
	wantNew(t, "all that there are", bare(t, api.MaxBlocks), "log", api.MaxBlocks-api.First, 1)
	f := holding(t, file(7, blank(3)))
	wantNew(t, "beside others", f, "new", 3, uint32(90*0x1010101+1))
	wantNew(t, "a long name", bare(t, 64), strings.Repeat("n", api.MaxName), 2, 1)
	wantNew(t, "a name of noughts", bare(t, 64), "\x00", 2, 1)
}

func TestNewWaits(t *testing.T) { // P9.1: the gen waits, and nothing is committed
	f := bare(t, 64)
	g, _ := begin(t, f, "log", 4)
	if len(g.Disk.Wait) != 1 || len(g.Disk.Done) != 1 || g.Gen != f.Gen || len(g.Kept.Files) != 0 {
		t.Errorf("%d writes wait, %d acts were done, gen %d, %d files are committed", len(g.Disk.Wait), len(g.Disk.Done), g.Gen, len(g.Kept.Files))
	}
}

func TestNewGen(t *testing.T) { // P9.1: one more than the greatest number with which a block of the file begins, as it is now
	for _, most := range []uint32{0, 1, 2, 254, 255, 256, 65535, 1<<24 - 1, 1 << 31, greatest - 2, greatest - 1} {
		for place := range 4 {
			l := [][]byte{full(0), full(0), full(0), full(0)}
			l[place] = begun(most, greatest, greatest, greatest)
			wantNew(t, "one block", bare(t, 64, l...), "log", 4, most+1)
			l[(place+1)%4] = begun(most / 2)
			wantNew(t, "two blocks", bare(t, 64, l...), "log", 4, most+1)
		}
	}
}

func TestNewGenOfWhatWaits(t *testing.T) { // P9.1: as the blocks are now
	f := bare(t, 64, begun(9))
	f.Disk.Wait = []api.Put{{N: api.First + 1, Data: begun(20)}, {N: api.First + 1, Data: begun(12)}}
	wantNew(t, "written anew", f, "log", 3, 13)
	f.Disk.Wait = []api.Put{{N: api.First, Data: begun(5)}, {N: api.First + 1, Data: begun(6)}, {N: api.First + 2, Data: begun(4)}}
	wantNew(t, "all written anew", f, "log", 3, 7)
	f.Disk.Wait = []api.Put{{N: api.First + 2, Data: begun(greatest)}}
	wantNew(t, "behind the file", f, "log", 2, 10)
	_, w, e := wal.New(f, "log", 3)
	wantAlone(t, "the greatest waits", e, api.ErrFull, w)
	full := bare(t, 64, begun(greatest))
	full.Disk.Wait = f.Disk.Wait[:0:0]
	for n := api.First; n < api.First+3; n++ {
		full.Disk.Wait = append(full.Disk.Wait, api.Put{N: n, Data: begun(3)})
	}
	wantNew(t, "the greatest is written over", full, "log", 3, 4)
}

func TestNewIsFull(t *testing.T) { // P9.1: a block of the file, whichever, begins with the greatest number
	for place := range 4 {
		l := [][]byte{full(0), full(0), full(0), full(0)}
		l[place] = begun(greatest)
		f, w, e := wal.New(bare(t, 64, l...), "log", 4)
		wantAlone(t, "the greatest", e, api.ErrFull, f, w)
		if place > 1 {
			wantNew(t, "ahead of the greatest", bare(t, 64, l...), "log", place, 1)
		}
	}
	f := bare(t, 64, begun(greatest))
	f.Disk.Data[(api.First+5)*api.Block] = 254
	g, w, e := wal.New(f, "log", 30)
	wantAlone(t, "one of them is less", e, api.ErrFull, g, w)
}

func TestNewOfSoMany(t *testing.T) { // P9.1
	for _, f := range []api.Fs{bare(t, 64), bare(t, api.MaxBlocks)} {
		for _, blocks := range []int{1, 0, -1, api.MaxBlocks + 1, 1 << 40, -1 << 63, 1<<63 - 1} {
			g, w, e := wal.New(f, "log", blocks)
			wantAlone(t, "too few or too many", e, api.ErrArg, g, w)
		}
		for _, blocks := range []int{api.MaxBlocks, api.MaxBlocks - api.First + 1} {
			g, w, e := wal.New(f, "log", blocks)
			wantAlone(t, "more than there are", e, api.ErrRoom, g, w)
		}
	}
	g, w, e := wal.New(bare(t, 64), "log", 31)
	wantAlone(t, "one more than there are", e, api.ErrRoom, g, w)
}

func TestNewErrorsInOrder(t *testing.T) { // P9.1: fs.Check's, the number's, fs.Create's, the gen's, fs.Put's
	long := strings.Repeat("n", api.MaxName+1)
	for name, f := range bad(t) {
		for _, blocks := range []int{0, 1, 2, api.MaxBlocks + 1} {
			for _, x := range []string{"", "log", "new", long} {
				g, w, e := wal.New(f, x, blocks)
				wantAlone(t, "New of files that may not be: "+name, e, api.ErrBad, g, w)
			}
		}
	}
	full := bare(t, 64, begun(greatest))
	full = ok[api.Fs](t)(fs.Create(full, "there", 1))
	for _, c := range []struct {
		name   string
		blocks int
		want   api.Errno
	}{
		{"", 1, api.ErrArg}, {long, api.MaxBlocks + 1, api.ErrArg}, {"there", 1, api.ErrArg}, {"there", 0, api.ErrArg},
		{"", 2, api.ErrName}, {"", 400, api.ErrName}, {long, 2, api.ErrName}, {long, 400, api.ErrName},
		{"there", 2, api.ErrThere}, {"there", 400, api.ErrThere}, {"new", 400, api.ErrRoom}, {"new", 2, api.ErrFull},
	} {
		g, w, e := wal.New(full, c.name, c.blocks)
		wantAlone(t, "New of "+c.name, e, c.want, g, w)
	}
}

func TestNewOfFullDirectory(t *testing.T) { // P9.1: fs.Create's error
	f := bare(t, 100)
	for i := range api.MaxFiles {
		f = ok[api.Fs](t)(fs.Create(f, string(rune('A'+i)), 1))
	}
	g, w, e := wal.New(f, "log", 2)
	wantAlone(t, "New where the directory is full", e, api.ErrRoom, g, w)
	wantNew(t, "New where one file is gone", ok[api.Fs](t)(fs.Delete(f, "C")), "log", 2, 1)
}

func TestNewOnBusyDisk(t *testing.T) { // P9.1: fs.Put's error
	g, w, e := wal.New(busy(bare(t, 64), maxActs), "log", 2)
	wantAlone(t, "New where MaxActs acts were done", e, api.ErrFull, g, w)
	wantNew(t, "New where one less was done", busy(bare(t, 64), maxActs-1), "log", 2, 1)
	g, w, e = wal.New(busy(bare(t, 64), maxActs), "log", 31)
	wantAlone(t, "New without room where MaxActs acts were done", e, api.ErrRoom, g, w)
}
