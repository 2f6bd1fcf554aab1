package wal_test

import (
	"bytes"
	"encoding/binary"
	"reflect"
	"slices"
	"testing"

	"millhand/api"
	"millhand/fs"
	"millhand/wal"
)

const (
	room     = 107       // bytes of a record in a block
	greatest = 1<<32 - 1 // of all numbers
	maxActs  = 65536     // chapter 2's MaxActs
)

// full is a block of one byte, again and again.
func full(x byte) []byte { return bytes.Repeat([]byte{x}, api.Block) }

// begun is a block of bytes that begins with some numbers, as blocks of records do.
func begun(l ...uint32) []byte {
	b := full(170)
	for i, n := range l {
		binary.LittleEndian.PutUint32(b[4*i:], n)
	}
	return b
}

// head is a block 0 as the chapter tells it, without the help of the package under test; of the gen 0, too.
func head(gen uint32) []byte {
	b := full(0)
	binary.LittleEndian.PutUint32(b, gen)
	return b
}

// made are the blocks of a record as chapter 8 tells them.
func made(gen, number, salt, prev uint32, record []byte) [][]byte {
	parts := slices.Collect(slices.Chunk(record, room))
	if len(parts) == 0 {
		parts = [][]byte{nil}
	}
	var l [][]byte
	for i, p := range parts {
		b := full(0)
		copy(b, begun(gen, number, salt, prev)[:16])
		binary.LittleEndian.PutUint16(b[16:], uint16(i))
		binary.LittleEndian.PutUint16(b[18:], uint16(len(parts)))
		b[20] = byte(len(p))
		copy(b[21:], p)
		l = append(l, b)
	}
	return l
}

// some are so many bytes, none of them 0, that differ by a seed.
func some(many, seed int) []byte {
	b := make([]byte, many)
	for i := range b {
		b[i] = byte(1 + (i*7+seed*13)%255)
	}
	return b
}

// blank are so many blocks of noughts.
func blank(many int) [][]byte { return slices.Repeat([][]byte{full(0)}, many) }

// row is lists of blocks, one behind the other.
func row(l ...[][]byte) [][]byte { return slices.Concat(l...) }

// file are a log's file's blocks: its head, and lists of others.
func file(gen uint32, l ...[][]byte) [][]byte { return append([][]byte{head(gen)}, row(l...)...) }

// ok is what was answered without an error.
func ok[T any](t *testing.T) func(T, api.Errno) T {
	return func(x T, e api.Errno) T {
		t.Helper()
		if e != api.OK {
			t.Fatalf("the error %d", e)
		}
		return x
	}
}

// bare is files on a disk of so many blocks, each of which from First on has what that list of blocks tells, in turn.
func bare(t *testing.T, blocks int, l ...[]byte) api.Fs {
	t.Helper()
	f := ok[api.Fs](t)(fs.Format(blocks))
	for n := api.First; len(l) > 0 && n < blocks; n++ {
		copy(f.Disk.Data[n*api.Block:], l[(n-api.First)%len(l)])
	}
	return f
}

// holding is files of which one, log, has these blocks; it is committed, nothing waits, and nothing was done. Another one stands ahead of it on the disk, and one behind it.
func holding(t *testing.T, l [][]byte) api.Fs {
	t.Helper()
	f := bare(t, api.First+len(l)+12, full(90))
	f = ok[api.Fs](t)(fs.Create(f, "ahead", 2))
	f = ok[api.Fs](t)(fs.Create(f, "log", len(l)))
	f = ok[api.Fs](t)(fs.Create(f, "rest", 3))
	for i, b := range l {
		copy(f.Disk.Data[(api.First+2+i)*api.Block:], b)
	}
	return ok[api.Fs](t)(fs.Clear(ok[api.Fs](t)(fs.Commit(f))))
}

// opened is what Open answers without an error.
func opened(t *testing.T, f api.Fs, name string) (api.Wal, [][]byte) {
	t.Helper()
	w, l, e := wal.Open(f, name)
	if e != api.OK {
		t.Fatalf("Open of %q: error %d", name, e)
	}
	return w, l
}

// begin is what New answers without an error.
func begin(t *testing.T, f api.Fs, name string, blocks int) (api.Fs, api.Wal) {
	t.Helper()
	g, w, e := wal.New(f, name, blocks)
	if e != api.OK {
		t.Fatalf("New of %q, %d blocks: error %d", name, blocks, e)
	}
	return g, w
}

// longer is what Append answers without an error.
func longer(t *testing.T, f api.Fs, w api.Wal, record []byte) (api.Fs, api.Wal) {
	t.Helper()
	g, x, e := wal.Append(f, w, record)
	if e != api.OK {
		t.Fatalf("Append of %d bytes to %v: error %d", len(record), w, e)
	}
	return g, x
}

// committed is files behind a commit, on whose disk nothing was done.
func committed(t *testing.T, f api.Fs) api.Fs {
	t.Helper()
	return ok[api.Fs](t)(fs.Clear(ok[api.Fs](t)(fs.Commit(f))))
}

func same(a, b [][]byte) bool { return slices.EqualFunc(a, b, bytes.Equal) }

func sameDir(a, b api.Dir) bool {
	return slices.EqualFunc(a.Files, b.Files, func(f, g api.File) bool {
		return f.Name == g.Name && slices.Equal(f.Extents, g.Extents)
	})
}

// sameFs compares files in all their parts.
func sameFs(a, b api.Fs) bool {
	put := func(p, q api.Put) bool { return p.N == q.N && bytes.Equal(p.Data, q.Data) }
	act := func(x, y api.Act) bool { return x.Sync == y.Sync && put(x.Put, y.Put) }
	return bytes.Equal(a.Disk.Data, b.Disk.Data) && slices.EqualFunc(a.Disk.Wait, b.Disk.Wait, put) && slices.EqualFunc(a.Disk.Done, b.Disk.Done, act) &&
		a.Gen == b.Gen && sameDir(a.Dir, b.Dir) && sameDir(a.Kept, b.Kept)
}

// isZero tells whether all of some results are zero values, as they must be beside an error.
func isZero(l ...any) bool {
	return !slices.ContainsFunc(l, func(x any) bool { return !reflect.ValueOf(x).IsZero() })
}

// wantAlone looks whether an error stands alone, beside zero values.
func wantAlone(t *testing.T, name string, e, want api.Errno, l ...any) {
	t.Helper()
	if e != want || !isZero(l...) {
		t.Errorf("%s: error %d, not %d alone", name, e, want)
	}
}

// wantLog looks whether Open tells of the file log just this log and these records.
func wantLog(t *testing.T, name string, f api.Fs, want api.Wal, records [][]byte) {
	t.Helper()
	w, l, e := wal.Open(f, want.Name)
	if e != api.OK || w != want || !same(l, records) {
		t.Errorf("%s: %v with %d records, error %d, not %v with %d", name, w, len(l), e, want, len(records))
	}
}

// busy is files on whose disk so many acts were done already: syncs.
func busy(f api.Fs, acts int) api.Fs {
	f.Disk.Done = slices.Repeat([]api.Act{{Sync: true}}, acts)
	return f
}

// bad are files that may not be.
func bad(t *testing.T) map[string]api.Fs {
	good := holding(t, file(1, blank(3)))
	otherGen, otherDir, otherKept, noDisk, below := good, good, good, good, good
	otherGen.Gen++
	otherDir.Dir = api.Dir{Files: append(slices.Clone(good.Dir.Files), good.Dir.Files[0])}
	otherKept.Kept = api.Dir{Files: good.Kept.Files[1:]}
	noDisk.Disk.Data = good.Disk.Data[1:]
	below.Disk.Wait = []api.Put{{N: api.First - 1, Data: full(1)}}
	return map[string]api.Fs{"zero": {}, "another gen": otherGen, "another directory": otherDir, "another committed one": otherKept, "no disk": noDisk, "a write below First": below}
}
