package fs_test

import (
	"bytes"
	"encoding/binary"
	"math"
	"slices"
	"strings"
	"testing"

	"millhand/api"
	"millhand/fs"
)

const (
	first    = api.First
	max      = api.MaxBlocks
	maxActs  = 65536 // chapter 2's MaxActs
	greatest = math.MaxUint32
	dirRoom  = 2048 // bytes of a directory
)

// full is a block of one byte, again and again.
func full(x byte) []byte { return bytes.Repeat([]byte{x}, api.Block) }

// of are the extents of pairs of numbers.
func of(l ...int) []api.Extent {
	var out []api.Extent
	for i := 0; i < len(l); i += 2 {
		out = append(out, api.Extent{At: l[i], Many: l[i+1]})
	}
	return out
}

// ones are so many extents of one block each, every second block from at on.
func ones(at, times int) []api.Extent {
	var out []api.Extent
	for i := range times {
		out = append(out, api.Extent{At: at + 2*i, Many: 1})
	}
	return out
}

// file is one with a name and the extents of pairs of numbers.
func file(name string, l ...int) api.File { return api.File{Name: name, Extents: of(l...)} }

// dir is a directory of files as they stand.
func dir(l ...api.File) api.Dir { return api.Dir{Files: l} }

// many is a directory of so many files of one block each, from First on.
func many(n int) api.Dir {
	var d api.Dir
	for i := range n {
		d.Files = append(d.Files, file(string([]byte{'f', byte('0' + i/10), byte('0' + i%10)}), first+i, 1))
	}
	return d
}

// sized is a directory of ten files a.. to j.. with so many bytes, which are made of the names: from 1951 to 2101.
func sized(n int) api.Dir {
	letters := n - (1 + 10*(1+1+3*api.MaxExtents)) // a file's numbers are its name's length, 64, and 64 pairs of two bytes and one
	var d api.Dir
	for i := range 10 {
		size := letters / (10 - i)
		letters -= size
		name := strings.Repeat(string(rune('a'+i)), size)
		d.Files = append(d.Files, api.File{Name: name, Extents: ones(128+2*api.MaxExtents*i, api.MaxExtents)})
	}
	return d
}

// plainSmall are a number's small bytes as chapter 1 tells them, without the help of the program's packages; so are all plain ones.
func plainSmall(n int) []byte {
	if n < 128 {
		return []byte{byte(n)}
	}
	return append([]byte{byte(n%128 + 128)}, plainSmall(n/128)...)
}

// plainBytes are a directory's bytes as chapter 5 tells them.
func plainBytes(d api.Dir) []byte {
	b := plainSmall(len(d.Files))
	for _, f := range d.Files {
		b = append(append(b, plainSmall(len(f.Name))...), f.Name...)
		b = append(b, plainSmall(len(f.Extents))...)
		for _, x := range f.Extents {
			b = append(append(b, plainSmall(x.At)...), plainSmall(x.Many)...)
		}
	}
	return b
}

// plainSuper is a superblock's bytes as chapter 3 tells them; of numbers, too, that no superblock has.
func plainSuper(gen uint32, size int) []byte {
	b := make([]byte, api.Block)
	binary.LittleEndian.PutUint32(b, gen)
	binary.LittleEndian.PutUint32(b[4:], uint32(size))
	return b
}

// slotOf and areaOf are where a gen's superblock and its directory stand.
func slotOf(gen uint32) int { return int(gen % 2) }
func areaOf(gen uint32) int { return 2 + 16*slotOf(gen) }

// set writes bytes over what lasts on a disk, from a block on.
func set(f api.Fs, block int, b []byte) { copy(f.Disk.Data[block*api.Block:], b) }

// laid is files as a commit of a directory leaves them, on so many blocks; Kept and Dir are that, in memory of their own.
func laid(blocks int, gen uint32, d api.Dir) api.Fs {
	f := api.Fs{Disk: api.Disk{Data: make([]byte, blocks*api.Block)}, Gen: gen, Dir: copied(d), Kept: copied(d)}
	b := plainBytes(d)
	set(f, areaOf(gen), b)
	set(f, slotOf(gen), plainSuper(gen, len(b)))
	return f
}

// copied is a directory of its own memory.
func copied(d api.Dir) api.Dir {
	out := api.Dir{Files: slices.Clone(d.Files)}
	for i := range out.Files {
		out.Files[i].Extents = slices.Clone(out.Files[i].Extents)
	}
	return out
}

// holed is files of which a has so many extents of one block each, and there is one free block between any two of them.
func holed(blocks, extents int) api.Fs {
	return laid(blocks, 2, dir(api.File{Name: "a", Extents: ones(first+1, extents)}))
}

// must is files that were answered without an error, and may be.
func must(t *testing.T) func(api.Fs, api.Errno) api.Fs {
	return func(f api.Fs, e api.Errno) api.Fs {
		t.Helper()
		if e != api.OK {
			t.Fatalf("the error %d, not files", e)
		}
		if e := fs.Check(f); e != api.OK {
			t.Fatalf("what is answered may not be: error %d", e)
		}
		return f
	}
}

func sameDir(a, b api.Dir) bool {
	return slices.EqualFunc(a.Files, b.Files, func(f, g api.File) bool {
		return f.Name == g.Name && slices.Equal(f.Extents, g.Extents)
	})
}

func samePut(a, b api.Put) bool { return a.N == b.N && bytes.Equal(a.Data, b.Data) }

func sameAct(a, b api.Act) bool { return a.Sync == b.Sync && samePut(a.Put, b.Put) }

// sameDisk compares disks in all their parts.
func sameDisk(a, b api.Disk) bool {
	return bytes.Equal(a.Data, b.Data) && slices.EqualFunc(a.Wait, b.Wait, samePut) && slices.EqualFunc(a.Done, b.Done, sameAct)
}

// same compares files in all their parts.
func same(a, b api.Fs) bool {
	return sameDisk(a.Disk, b.Disk) && a.Gen == b.Gen && sameDir(a.Dir, b.Dir) && sameDir(a.Kept, b.Kept)
}

// nothing tells whether files are the zero value, as they must be beside an error.
func nothing(f api.Fs) bool {
	d := f.Disk
	return d.Data == nil && d.Wait == nil && d.Done == nil && f.Gen == 0 && f.Dir.Files == nil && f.Kept.Files == nil
}

// wantRefused tells whether nothing stands beside the error.
func wantRefused(t *testing.T, name string, f api.Fs, e, want api.Errno) {
	t.Helper()
	if e != want || want != api.OK && !nothing(f) {
		t.Errorf("%s: error %d, not %d alone", name, e, want)
	}
}

// wantFiles holds files and an error against what is wanted of them.
func wantFiles(t *testing.T, name string, f api.Fs, e api.Errno, want api.Fs) {
	t.Helper()
	if e != api.OK || !same(f, want) {
		t.Errorf("%s: error %d, gen %d, %v, committed %v, %d waits, %d acts, not gen %d, %v, committed %v, %d waits, %d acts",
			name, e, f.Gen, f.Dir, f.Kept, len(f.Disk.Wait), len(f.Disk.Done), want.Gen, want.Dir, want.Kept, len(want.Disk.Wait), len(want.Disk.Done))
	}
	if e := fs.Check(f); e != api.OK {
		t.Errorf("%s: what is answered may not be: error %d", name, e)
	}
}

func wantFree(t *testing.T, name string, f api.Fs, want int) {
	t.Helper()
	if n, e := fs.Free(f); n != want || e != api.OK {
		t.Errorf("%s: Free is %d, error %d, not %d", name, n, e, want)
	}
}

func wantSize(t *testing.T, f api.Fs, name string, want int, err api.Errno) {
	t.Helper()
	if n, e := fs.Size(f, name); n != want || e != err {
		t.Errorf("Size of %q: %d, error %d, not %d, error %d", name, n, e, want, err)
	}
}

func wantNames(t *testing.T, f api.Fs, want ...string) {
	t.Helper()
	if l, e := fs.Names(f); e != api.OK || !slices.Equal(l, want) {
		t.Errorf("Names: %q, error %d, not %q", l, e, want)
	}
}

func wantGet(t *testing.T, f api.Fs, name string, i int, want []byte, err api.Errno) {
	t.Helper()
	b, e := fs.Get(f, name, i)
	if e != err || !bytes.Equal(b, want) {
		t.Errorf("Get(%q, %d): %v, error %d, not %v, error %d", name, i, b, e, want, err)
	}
}

// puts are so many writes of a block.
func puts(many, n int) []api.Put {
	b := full(5)
	l := make([]api.Put, many)
	for i := range l {
		l[i] = api.Put{N: n, Data: b}
	}
	return l
}

// acts are so many syncs that were done.
func acts(many int) []api.Act {
	l := make([]api.Act, many)
	for i := range l {
		l[i].Sync = true
	}
	return l
}

// told are the acts of a disk: the block of a write, -1 for a sync.
func told(d api.Disk) []int {
	var l []int
	for _, a := range d.Done {
		if a.Sync {
			l = append(l, -1)
		} else {
			l = append(l, a.Put.N)
		}
	}
	return l
}
