package fs_test

import (
	"bytes"
	"encoding/binary"
	"slices"
	"testing"

	"millhand/api"
	"millhand/dev"
	"millhand/fs"
)

// opened is the gen of the latest superblock that lasts on a disk, and the bytes of its directory.
func opened(d api.Disk) (uint32, []byte) {
	var gen uint32
	var size int
	for slot := range 2 {
		b := d.Data[slot*api.Block : (slot+1)*api.Block]
		if g := binary.LittleEndian.Uint32(b); g > gen {
			gen, size = g, int(binary.LittleEndian.Uint32(b[4:]))
		}
	}
	return gen, d.Data[areaOf(gen)*api.Block:][:size]
}

// cuts calls look with all disks that a loss of power may leave of what was done between two states, the earlier one cleared.
func cuts(t *testing.T, before, after api.Fs, look func(x api.Disk)) {
	t.Helper()
	for n := range len(after.Disk.Done) + 1 {
		cut, e := dev.Do(before.Disk, after.Disk.Done, n)
		if e != api.OK {
			t.Fatalf("%d acts: error %d", n, e)
		}
		for bits := range 1 << len(cut.Wait) {
			keep := make([]bool, len(cut.Wait))
			for i := range keep {
				keep[i] = bits>>i&1 != 0
			}
			x, e := dev.Crash(cut, keep)
			if e != api.OK {
				t.Fatalf("a loss of power: error %d", e)
			}
			look(x)
		}
	}
}

// blocksIn are the blocks of all files of a directory.
func blocksIn(d api.Dir) []int {
	var l []int
	for _, f := range d.Files {
		for _, x := range f.Extents {
			for i := range x.Many {
				l = append(l, x.At+i)
			}
		}
	}
	return l
}

// wantEither looks whether a disk behind a loss of power has the earlier committed directory, or the later one whole, and in their blocks nothing that was never there.
func wantEither(t *testing.T, row string, x api.Disk, before, after api.Fs) {
	t.Helper()
	gen, b := opened(x)
	was, is, wrote := before.Disk.Data, synced(after.Disk), slices.Clone(before.Disk.Wait)
	for _, a := range after.Disk.Done {
		wrote = append(wrote, a.Put)
	}
	at := func(data []byte, n int) []byte { return data[n*api.Block : (n+1)*api.Block] }
	switch {
	case gen == before.Gen && bytes.Equal(b, plainBytes(before.Kept)):
		for _, n := range blocksIn(before.Kept) {
			if !bytes.Equal(at(x.Data, n), at(was, n)) && !slices.ContainsFunc(wrote, func(p api.Put) bool {
				return p.N == n && bytes.Equal(at(x.Data, n), p.Data)
			}) {
				t.Fatalf("%s: the block %d of what was committed before is lost", row, n)
			}
		}
	case gen == after.Gen && bytes.Equal(b, plainBytes(after.Kept)):
		for _, n := range blocksIn(after.Kept) {
			if !bytes.Equal(at(x.Data, n), at(is, n)) {
				t.Fatalf("%s: the block %d of what was committed is lost", row, n)
			}
		}
	default:
		t.Fatalf("%s: the gen %d is opened, with %v", row, gen, b)
	}
}

func TestCommitAndPower(t *testing.T) { // P6.4, W2: wherever power fails, all that was done is there, or nothing of it
	for name, f := range map[string]api.Fs{
		"spoken": spoken(), "no files": withDir(base(), api.Dir{}), "two blocks": withDir(laid(80, 2, many(9)), many(40)),
		"three blocks": withDir(laid(80, 3, many(9)), ofBytes(300)), "fewer": withDir(laid(80, 3, many(40)), many(1)),
	} {
		before := must(t)(fs.Clear(f))
		after := must(t)(fs.Commit(before))
		earlier, later := 0, 0
		cuts(t, before, after, func(x api.Disk) {
			wantEither(t, name, x, before, after)
			if gen, _ := opened(x); gen == before.Gen {
				earlier++
			} else {
				later++
			}
		})
		if earlier == 0 || later == 0 {
			t.Errorf("%s: %d times the earlier one, %d times the later one", name, earlier, later)
		}
	}
}

func TestRowsAndPower(t *testing.T) { // P6.6, W2: rows of calls between two commits, power failing anywhere
	names := []string{"a", "b", "ab", "log", "0123456789abcdef"}
	for blocks := 37; blocks < 60; blocks += 11 {
		f, p := begun(t, blocks)
		d := dice(blocks)
		for range 60 {
			before := must(t)(fs.Clear(must(t)(fs.Sync(f))))
			p, _ = p.sync()
			f = before
			for calls := 0; calls < 4; {
				c := anyTurn(&d, names)
				if c.name == "Commit" || c.name == "Clear" {
					continue
				}
				f, p = tried(t, c.name, c, f, p)
				calls++
			}
			f, p = tried(t, "Commit", commitTurn(), f, p)
			cuts(t, before, f, func(x api.Disk) { wantEither(t, "a row", x, before, f) })
		}
	}
}
