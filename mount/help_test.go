package mount_test

import (
	"bytes"
	"encoding/binary"
	"math"
	"reflect"
	"slices"
	"strings"
	"testing"

	"millhand/api"
	"millhand/fs"
	"millhand/mount"
)

const (
	first    = api.First
	max      = api.MaxBlocks
	maxActs  = 65536 // chapter 2's MaxActs
	greatest = math.MaxUint32
)

// full is a block of one byte, again and again.
func full(x byte) []byte { return bytes.Repeat([]byte{x}, api.Block) }

// file is one with a name and the extents of pairs of numbers.
func file(name string, l ...int) api.File {
	f := api.File{Name: name}
	for i := 0; i < len(l); i += 2 {
		f.Extents = append(f.Extents, api.Extent{At: l[i], Many: l[i+1]})
	}
	return f
}

// dir is a directory of files as they stand.
func dir(l ...api.File) api.Dir { return api.Dir{Files: l} }

// two is a directory of two files.
func two() api.Dir { return dir(file("a", 34, 2), file("b", 36, 1, 40, 2)) }

// lots is a directory of so many files of one block each, from First on.
func lots(n int) api.Dir {
	var d api.Dir
	for i := range n {
		d.Files = append(d.Files, file(string([]byte{'f', byte('0' + i/10), byte('0' + i%10)}), first+i, 1))
	}
	return d
}

// wide is a directory of ten files of 64 extents each with so many bytes, which are made of the names: from 1951 to 2101.
func wide(size int) api.Dir {
	letters := size - (1 + 10*(1+1+3*api.MaxExtents)) // a file's numbers are its name's length, 64, and 64 pairs of two bytes and one
	var d api.Dir
	for i := range 10 {
		n := letters / (10 - i)
		letters -= n
		f := file(strings.Repeat(string(rune('a'+i)), n))
		for j := range api.MaxExtents {
			f.Extents = append(f.Extents, api.Extent{At: 128 + 2*(api.MaxExtents*i+j), Many: 1})
		}
		d.Files = append(d.Files, f)
	}
	return d
}

// plainSmall are a number's small bytes as chapter 1 tells them, without the help of the program's packages; so are all plain ones.
func plainSmall(n int) []byte {
	var b []byte
	for ; n >= 128; n /= 128 {
		b = append(b, byte(128+n%128))
	}
	return append(b, byte(n))
}

// plainDir are a directory's bytes as chapter 5 tells them; of directories, too, that may not be.
func plainDir(d api.Dir) []byte {
	b := plainSmall(len(d.Files))
	for _, f := range d.Files {
		b = slices.Concat(b, plainSmall(len(f.Name)), []byte(f.Name), plainSmall(len(f.Extents)))
		for _, x := range f.Extents {
			b = slices.Concat(b, plainSmall(x.At), plainSmall(x.Many))
		}
	}
	return b
}

// plainSuper is a superblock's bytes as chapter 3 tells them; of numbers, too, that no superblock has.
func plainSuper(gen uint32, size int) []byte {
	b := make([]byte, api.Block)
	binary.LittleEndian.PutUint32(b, gen)
	binary.LittleEndian.PutUint32(b[4:], uint32(size))
	return b
}

// set writes bytes over what lasts on a disk, from a block on.
func set(d api.Disk, block int, b []byte) { copy(d.Data[block*api.Block:], b) }

// lay lets a directory's bytes and the superblock of a gen last on a disk.
func lay(d api.Disk, gen uint32, b []byte) {
	slot := int(gen % 2)
	set(d, 2+16*slot, b)
	set(d, slot, plainSuper(gen, len(b)))
}

// blank is a disk of so many blocks; each from First on has its number's last byte, again and again.
func blank(blocks int) api.Disk {
	d := api.Disk{Data: make([]byte, blocks*api.Block)}
	for n := first; n < blocks; n++ {
		set(d, n, full(byte(n)))
	}
	return d
}

// laid is a disk as a commit of a directory leaves it.
func laid(blocks int, gen uint32, x api.Dir) api.Disk {
	d := blank(blocks)
	lay(d, gen, plainDir(x))
	return d
}

// put is a write of a block of one byte.
func put(n int, x byte) api.Put { return api.Put{N: n, Data: full(x)} }

// wrote and synced are acts.
func wrote(n int, x byte) api.Act { return api.Act{Put: put(n, x)} }
func synced() api.Act             { return api.Act{Sync: true} }

// waiting is a disk on which writes wait, too.
func waiting(d api.Disk, l ...api.Put) api.Disk {
	d.Wait = append(slices.Clone(d.Wait), l...)
	return d
}

// done is a disk on which some acts were done, too.
func done(d api.Disk, l ...api.Act) api.Disk {
	d.Done = append(slices.Clone(d.Done), l...)
	return d
}

// filesOf are the files that the chapter asks for of a disk, of which the gen and the directory are known.
func filesOf(d api.Disk, gen uint32, x api.Dir) api.Fs {
	return api.Fs{Disk: api.Disk{Data: d.Data, Wait: d.Wait}, Gen: gen, Dir: x, Kept: x}
}

// plainAct does an act to a disk, of which nobody else has the data.
func plainAct(d api.Disk, a api.Act) api.Disk {
	if !a.Sync {
		return done(waiting(d, a.Put), a)
	}
	for _, p := range d.Wait {
		set(d, p.N, p.Data)
	}
	return done(api.Disk{Data: d.Data, Done: d.Done}, a)
}

// plainDone is a disk on which acts were done, one by one.
func plainDone(d api.Disk, l []api.Act) api.Disk {
	d.Data = bytes.Clone(d.Data)
	for _, a := range l {
		d = plainAct(d, a)
	}
	return d
}

// plainLoss is what a loss of power leaves of a disk.
func plainLoss(d api.Disk, keep []bool) api.Disk {
	out := api.Disk{Data: bytes.Clone(d.Data)}
	for i, p := range d.Wait {
		if i < len(keep) && keep[i] {
			set(out, p.N, p.Data)
		}
	}
	return out
}

func names(d api.Dir) []string {
	var l []string
	for _, f := range d.Files {
		l = append(l, f.Name)
	}
	return l
}

func sameDir(a, b api.Dir) bool {
	return slices.EqualFunc(a.Files, b.Files, func(f, g api.File) bool {
		return f.Name == g.Name && slices.Equal(f.Extents, g.Extents)
	})
}

// sameDisk compares disks in all their parts.
func sameDisk(a, b api.Disk) bool {
	put := func(p, q api.Put) bool { return p.N == q.N && bytes.Equal(p.Data, q.Data) }
	act := func(x, y api.Act) bool { return x.Sync == y.Sync && put(x.Put, y.Put) }
	return bytes.Equal(a.Data, b.Data) && slices.EqualFunc(a.Wait, b.Wait, put) && slices.EqualFunc(a.Done, b.Done, act)
}

// ok is what was answered without an error.
func ok[T any](t *testing.T) func(T, api.Errno) T {
	return func(x T, e api.Errno) T {
		t.Helper()
		if e != api.OK {
			t.Fatalf("the error %d", e)
		}
		return x
	}
}

// wantAlone looks whether an error stands alone, beside zero values.
func wantAlone(t *testing.T, name string, got any, e, want api.Errno) {
	t.Helper()
	if e != want || !reflect.ValueOf(got).IsZero() {
		t.Errorf("%s: error %d, not %d alone", name, e, want)
	}
}

// wantOpen looks whether a disk is opened as these files, which may be.
func wantOpen(t *testing.T, name string, d api.Disk, want api.Fs) {
	t.Helper()
	f, e := mount.Open(d)
	if e != api.OK || f.Gen != want.Gen || !sameDir(f.Dir, want.Dir) || !sameDir(f.Kept, want.Kept) || !sameDisk(f.Disk, want.Disk) {
		t.Errorf("%s: error %d, gen %d, %q, committed %q, %d waits, %d acts, not gen %d, %q, committed %q, %d waits, %d acts", name, e,
			f.Gen, names(f.Dir), names(f.Kept), len(f.Disk.Wait), len(f.Disk.Done), want.Gen, names(want.Dir), names(want.Kept), len(want.Disk.Wait), len(want.Disk.Done))
	}
	if e := fs.Check(f); e != api.OK {
		t.Errorf("%s: what is opened may not be: error %d", name, e)
	}
}

// keepOf are so many bools, true where a number's bits are set.
func keepOf(bits, many int) []bool {
	l := make([]bool, many)
	for i := range l {
		l[i] = bits>>i&1 != 0
	}
	return l
}
