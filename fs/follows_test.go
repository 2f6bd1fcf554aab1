package fs_test

import (
	"bytes"
	"maps"
	"slices"
	"strconv"
	"testing"

	"millhand/api"
	"millhand/fs"
)

// write is a block that was put, all of one byte.
type write struct {
	n int
	x byte
}

// plain is files as maps of names to blocks, by which each call is done again without the help of the program's packages.
type plain struct {
	blocks    int
	gen       uint32
	dir, kept map[string][]int
	last      map[int]byte
	wait      []write
}

func (p plain) copied() plain {
	p.dir, p.kept, p.last, p.wait = maps.Clone(p.dir), maps.Clone(p.kept), maps.Clone(p.last), slices.Clone(p.wait)
	return p
}

// extentsOf are blocks as extents as long as can be.
func extentsOf(blocks []int) []api.Extent {
	var l []api.Extent
	for i, n := range blocks {
		if i > 0 && blocks[i-1] == n-1 {
			l[len(l)-1].Many++
		} else {
			l = append(l, api.Extent{At: n, Many: 1})
		}
	}
	return l
}

// dirOf is the directory that a map tells.
func dirOf(m map[string][]int) api.Dir {
	var d api.Dir
	for _, name := range slices.Sorted(maps.Keys(m)) {
		d.Files = append(d.Files, api.File{Name: name, Extents: extentsOf(m[name])})
	}
	return d
}

// free are the blocks that can be given.
func (p plain) free() []int {
	taken := map[int]int{}
	for _, m := range []map[string][]int{p.dir, p.kept} {
		for _, l := range m {
			for _, n := range l {
				taken[n]++
			}
		}
	}
	var l []int
	for n := 34; n < p.blocks; n++ {
		if taken[n] == 0 {
			l = append(l, n)
		}
	}
	return l
}

// now is a block as it is now.
func (p plain) now(n int) byte {
	x := p.last[n]
	for _, w := range p.wait {
		if w.n == n {
			x = w.x
		}
	}
	return x
}

func named(name string) bool { return len(name) >= 1 && len(name) <= 16 }

func (p plain) create(name string, blocks int) (plain, api.Errno) {
	free := p.free()
	_, is := p.dir[name]
	switch {
	case !named(name):
		return p, api.ErrName
	case is:
		return p, api.ErrThere
	case blocks < 1 || blocks > 4096:
		return p, api.ErrArg
	case blocks > len(free) || len(p.dir) == 40 || len(extentsOf(free[:blocks])) > 64:
		return p, api.ErrRoom
	}
	out := p.copied()
	out.dir[name] = free[:blocks]
	if len(plainBytes(dirOf(out.dir))) > 2048 {
		return p, api.ErrRoom
	}
	return out, api.OK
}

func (p plain) delete(name string) (plain, api.Errno) {
	_, is := p.dir[name]
	if !named(name) {
		return p, api.ErrName
	}
	if !is {
		return p, api.ErrNone
	}
	out := p.copied()
	delete(out.dir, name)
	return out, api.OK
}

func (p plain) rename(from, to string) (plain, api.Errno) {
	l, is := p.dir[from]
	if !named(from) || !named(to) {
		return p, api.ErrName
	}
	if !is {
		return p, api.ErrNone
	}
	out := p.copied()
	delete(out.dir, from)
	out.dir[to] = l
	if len(plainBytes(dirOf(out.dir))) > 2048 {
		return p, api.ErrRoom
	}
	return out, api.OK
}

func (p plain) put(name string, i int, x byte) (plain, api.Errno) {
	l, is := p.dir[name]
	switch {
	case !named(name):
		return p, api.ErrName
	case !is:
		return p, api.ErrNone
	case i < 0 || i >= len(l):
		return p, api.ErrArg
	}
	out := p.copied()
	out.wait = append(out.wait, write{l[i], x})
	return out, api.OK
}

func (p plain) sync() (plain, api.Errno) {
	out := p.copied()
	for _, w := range p.wait {
		out.last[w.n] = w.x
	}
	out.wait = nil
	return out, api.OK
}

func (p plain) commit() (plain, api.Errno) {
	out, _ := p.sync()
	out.gen++
	out.kept = maps.Clone(out.dir)
	return out, api.OK
}

// turn is a call that makes files of files, and the same done to plain ones.
type turn struct {
	name  string
	call  func(api.Fs) (api.Fs, api.Errno)
	plain func(plain) (plain, api.Errno)
}

func createTurn(a string, n int) turn {
	return turn{"Create " + a + " " + strconv.Itoa(n),
		func(f api.Fs) (api.Fs, api.Errno) { return fs.Create(f, a, n) },
		func(p plain) (plain, api.Errno) { return p.create(a, n) }}
}

func deleteTurn(a string) turn {
	return turn{"Delete " + a,
		func(f api.Fs) (api.Fs, api.Errno) { return fs.Delete(f, a) },
		func(p plain) (plain, api.Errno) { return p.delete(a) }}
}

func renameTurn(a, b string) turn {
	return turn{"Rename " + a + " " + b,
		func(f api.Fs) (api.Fs, api.Errno) { return fs.Rename(f, a, b) },
		func(p plain) (plain, api.Errno) { return p.rename(a, b) }}
}

func putTurn(a string, i int, x byte) turn {
	return turn{"Put " + a + " " + strconv.Itoa(i),
		func(f api.Fs) (api.Fs, api.Errno) { return fs.Put(f, a, i, full(x)) },
		func(p plain) (plain, api.Errno) { return p.put(a, i, x) }}
}

func syncTurn() turn   { return turn{"Sync", fs.Sync, plain.sync} }
func commitTurn() turn { return turn{"Commit", fs.Commit, plain.commit} }
func clearTurn() turn {
	return turn{"Clear", fs.Clear, func(p plain) (plain, api.Errno) { return p, api.OK }}
}

// wantPlain holds files against plain ones in all that the calls tell, and in what stands on the disk.
func wantPlain(t *testing.T, row string, f api.Fs, p plain) {
	t.Helper()
	if e := fs.Check(f); e != api.OK {
		t.Fatalf("%s: what is answered may not be: error %d", row, e)
	}
	if f.Gen != p.gen || !sameDir(f.Dir, dirOf(p.dir)) || !sameDir(f.Kept, dirOf(p.kept)) {
		t.Fatalf("%s: gen %d, %v, committed %v, not gen %d, %v, committed %v", row, f.Gen, f.Dir, f.Kept, p.gen, dirOf(p.dir), dirOf(p.kept))
	}
	wantNames(t, f, slices.Sorted(maps.Keys(p.dir))...)
	wantFree(t, row, f, len(p.free()))
	for name, l := range p.dir {
		wantSize(t, f, name, len(l), api.OK)
		for i, n := range l {
			wantGet(t, f, name, i, full(p.now(n)), api.OK)
		}
		wantGet(t, f, name, len(l), nil, api.ErrArg)
	}
	for n := 34; n < p.blocks; n++ {
		if !bytes.Equal(f.Disk.Data[n*api.Block:(n+1)*api.Block], full(p.last[n])) {
			t.Fatalf("%s: the block %d lasts as it should not", row, n)
		}
	}
	var wait []write
	for _, w := range f.Disk.Wait {
		wait = append(wait, write{w.N, w.Data[0]})
	}
	if !slices.Equal(wait, p.wait) {
		t.Fatalf("%s: %v waits, not %v", row, wait, p.wait)
	}
}

// tried does a turn to files and to plain ones, and answers what both are from then on.
func tried(t *testing.T, row string, c turn, f api.Fs, p plain) (api.Fs, plain) {
	t.Helper()
	g, e := c.call(f)
	q, err := c.plain(p)
	if e != err {
		t.Fatalf("%s: error %d, not %d", row, e, err)
	}
	if err != api.OK {
		wantRefused(t, row, g, e, err)
		return f, p
	}
	wantPlain(t, row, g, q)
	return g, q
}

// begun are files without any on a new disk, and plain ones.
func begun(t *testing.T, blocks int) (api.Fs, plain) {
	t.Helper()
	return must(t)(fs.Format(blocks)), plain{blocks: blocks, gen: 1, dir: map[string][]int{}, kept: map[string][]int{}, last: map[int]byte{}}
}

func TestWhatFollowsOfAllShortRows(t *testing.T) { // P6.6: all rows of four calls on a disk of few blocks
	all := []turn{
		createTurn("a", 1), createTurn("b", 2), createTurn("", 1), deleteTurn("a"), deleteTurn("b"), renameTurn("a", "b"), renameTurn("b", "a"),
		putTurn("a", 0, 1), putTurn("b", 1, 2), putTurn("b", 0, 3), syncTurn(), commitTurn(), clearTurn(),
	}
	var rows func(row string, f api.Fs, p plain, depth int)
	rows = func(row string, f api.Fs, p plain, depth int) {
		for _, c := range all {
			row := row + "; " + c.name
			if g, q := tried(t, row, c, f, p); depth > 1 {
				rows(row, g, q, depth-1)
			}
		}
	}
	f, p := begun(t, 38)
	rows("Format", f, p, 4)
}

// dice are numbers that hang on nothing but how many were asked for.
type dice uint32

func (d *dice) below(n int) int {
	*d = *d*1664525 + 1013904223
	return int(*d>>8) % n
}

// anyTurn is one of all kinds of calls, with a name and a size that often may be.
func anyTurn(d *dice, names []string) turn {
	a, b := names[d.below(len(names))], names[d.below(len(names))]
	switch k := d.below(20); {
	case k < 6:
		return createTurn(a, d.below(8))
	case k < 10:
		return deleteTurn(a)
	case k < 12:
		return renameTurn(a, b)
	case k < 17:
		return putTurn(a, d.below(8)-1, byte(1+d.below(250)))
	case k < 18:
		return syncTurn()
	case k < 19:
		return commitTurn()
	default:
		return clearTurn()
	}
}

func TestWhatFollowsOfLongRows(t *testing.T) { // P6.6: rows of many calls, with disks that get full and empty again
	names := []string{"", "a", "b", "ab", "log", "table-1", "table-2", "0123456789abcdef", "0123456789abcdefg"}
	for blocks := 36; blocks < 64; blocks += 9 {
		f, p := begun(t, blocks)
		d, met := dice(blocks), map[api.Errno]int{}
		for range 700 {
			c := anyTurn(&d, names)
			_, err := c.plain(p)
			met[err]++
			f, p = tried(t, c.name, c, f, p)
		}
		for _, e := range []api.Errno{api.OK, api.ErrName, api.ErrNone, api.ErrArg, api.ErrThere, api.ErrRoom} {
			if met[e] == 0 {
				t.Errorf("on %d blocks: error %d was never met", blocks, e)
			}
		}
	}
}

func TestPutIsGotTillItIsPutAnew(t *testing.T) { // P6.6: whatever is done between, and to no other block of any file
	ok := must(t)
	f := ok(fs.Create(ok(fs.Create(ok(fs.Format(64)), "a", 3)), "b", 4))
	want := map[string][]byte{"a": {0, 0, 0}, "b": {0, 0, 0, 0}}
	between := []func(api.Fs) (api.Fs, api.Errno){
		fs.Sync, fs.Commit, fs.Clear,
		func(f api.Fs) (api.Fs, api.Errno) { return fs.Create(f, "c", 2) },
		func(f api.Fs) (api.Fs, api.Errno) { return fs.Delete(f, "c") },
		func(f api.Fs) (api.Fs, api.Errno) { return then(f, fs.Commit)(fs.Rename(f, "b", "bb")) },
		func(f api.Fs) (api.Fs, api.Errno) { return then(f, fs.Sync)(fs.Rename(f, "bb", "b")) },
	}
	for round := range 40 {
		for _, name := range []string{"a", "b"} {
			i, x := round%len(want[name]), byte(round+1)
			f = ok(fs.Put(f, name, i, full(x)))
			want[name][i] = x
			if round%3 != 0 {
				f = ok(then(f, fs.Clear)(between[round%len(between)](f)))
			}
			if l, _ := fs.Names(f); slices.Contains(l, "bb") {
				f = ok(fs.Rename(f, "bb", "b"))
			}
			for file, l := range want {
				for i, x := range l {
					wantGet(t, f, file, i, full(x), api.OK)
				}
			}
		}
	}
}

func TestCreatedHasNewBlocks(t *testing.T) { // P6.6: blocks that no file has, and none had when it was committed last
	names := []string{"a", "b", "c", "d", "e"}
	f, _ := begun(t, 56)
	d := dice(9)
	for range 600 {
		name := names[d.below(len(names))]
		g, e := fs.Create(f, name, 1+d.below(6))
		if e == api.OK {
			at := slices.IndexFunc(g.Dir.Files, func(x api.File) bool { return x.Name == name })
			for _, x := range slices.Concat(f.Dir.Files, f.Kept.Files) {
				for _, one := range x.Extents {
					for _, two := range g.Dir.Files[at].Extents {
						if one.At < two.At+two.Many && two.At < one.At+one.Many {
							t.Fatalf("%s has blocks of %s: %v, %v", name, x.Name, two, one)
						}
					}
				}
			}
			f = g
		} else if g, e := fs.Delete(f, name); e == api.OK {
			f = g
		}
		if d.below(5) == 0 {
			f = must(t)(fs.Clear(must(t)(fs.Commit(f))))
			if !sameDir(f.Dir, f.Kept) {
				t.Fatal("behind a commit the committed directory is another one")
			}
			n := 56 - first
			for _, x := range f.Dir.Files {
				size, _ := fs.Size(f, x.Name)
				n -= size
			}
			wantFree(t, "behind a commit", f, n)
		}
	}
}
