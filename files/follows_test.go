package files_test

import (
	"maps"
	"slices"
	"strings"
	"testing"

	"millhand/api"
	"millhand/files"
)

// plain is a directory as a map, by which each call is done again without the help of the package under test.
type plain map[string][]api.Extent

// dir is the directory that the map tells.
func (p plain) dir() api.Dir {
	var d api.Dir
	for _, name := range slices.Sorted(maps.Keys(p)) {
		d.Files = append(d.Files, api.File{Name: name, Extents: p[name]})
	}
	return d
}

func isName(s string) bool { return len(s) >= 1 && len(s) <= 16 }

// fits tells whether the directory that the map tells has room.
func (p plain) fits() bool { return len(p) <= 40 && len(plainBytes(p.dir())) <= 2048 }

// free tells whether extents may be a new file's.
func (p plain) free(l []api.Extent, blocks int) bool {
	all := plain{"": l}
	maps.Copy(all, p)
	seen := map[int]bool{}
	for _, f := range all {
		for _, x := range f {
			if x.At < 34 || x.Many < 1 || x.At+x.Many > blocks {
				return false
			}
			for n := x.At; n < x.At+x.Many; n++ {
				if seen[n] {
					return false
				}
				seen[n] = true
			}
		}
	}
	return len(l) > 0
}

func (p plain) create(name string, l []api.Extent, blocks int) (plain, api.Errno) {
	out := maps.Clone(p)
	if _, is := p[name]; !isName(name) {
		return nil, api.ErrName
	} else if is {
		return nil, api.ErrThere
	}
	if !p.free(l, blocks) {
		return nil, api.ErrBad
	}
	if out[name] = l; !out.fits() || len(l) > 64 {
		return nil, api.ErrRoom
	}
	return out, api.OK
}

func (p plain) delete(name string) (plain, api.Errno) {
	out := maps.Clone(p)
	if _, is := p[name]; !isName(name) {
		return nil, api.ErrName
	} else if !is {
		return nil, api.ErrNone
	}
	delete(out, name)
	return out, api.OK
}

func (p plain) rename(from, to string) (plain, api.Errno) {
	out := maps.Clone(p)
	if _, is := p[from]; !isName(from) || !isName(to) {
		return nil, api.ErrName
	} else if !is {
		return nil, api.ErrNone
	}
	delete(out, from)
	if out[to] = p[from]; !out.fits() {
		return nil, api.ErrRoom
	}
	return out, api.OK
}

// wantWhole holds a directory that was answered against the map that it should tell, and all of what follows.
func wantWhole(t *testing.T, call string, d api.Dir, e api.Errno, p plain, err api.Errno, blocks int) {
	t.Helper()
	if e != err || !same(d, p.dir()) {
		t.Fatalf("%s: %v, error %d, not %v, error %d", call, d, e, p.dir(), err)
	}
	if files.Check(d, blocks) != api.OK || !plainMayBe(d, blocks) {
		t.Fatalf("%s: %v may not be", call, d)
	}
	for name, l := range p {
		if f, e := files.Find(d, name); e != api.OK || f.Name != name || !slices.Equal(f.Extents, l) {
			t.Fatalf("%s: then Find(.., %q) is %v, error %d", call, name, f, e)
		}
	}
	b, e := files.Write(d, blocks)
	back, f := files.Read(b, blocks)
	if e != api.OK || f != api.OK || !files.Same(back, d) {
		t.Fatalf("%s: Read of Write of %v is %v, errors %d, %d", call, d, back, e, f)
	}
}

// turn is a call that makes a directory of one, and the same done to a map.
type turn struct {
	name  string
	call  func(api.Dir) (api.Dir, api.Errno)
	plain func(plain) (plain, api.Errno)
}

// turns are all calls with some names and some extents.
func turns(names []string, lists [][]api.Extent, blocks int) []turn {
	var out []turn
	for _, a := range names {
		out = append(out, turn{"Delete " + a,
			func(d api.Dir) (api.Dir, api.Errno) { return files.Delete(d, a) },
			func(p plain) (plain, api.Errno) { return p.delete(a) }})
		for _, l := range lists {
			out = append(out, turn{"Create " + a,
				func(d api.Dir) (api.Dir, api.Errno) { return files.Create(d, a, l, blocks) },
				func(p plain) (plain, api.Errno) { return p.create(a, l, blocks) }})
		}
		for _, b := range names {
			out = append(out, turn{"Rename " + a + " " + b,
				func(d api.Dir) (api.Dir, api.Errno) { return files.Rename(d, a, b) },
				func(p plain) (plain, api.Errno) { return p.rename(a, b) }})
		}
	}
	return out
}

// tried does a turn to a directory and to the map of it, and answers what both are from then on.
func tried(t *testing.T, c turn, d api.Dir, p plain, blocks int) (api.Dir, plain) {
	t.Helper()
	was := copied(d)
	x, e := c.call(d)
	y, f := c.plain(p)
	if !same(d, was) {
		t.Fatalf("%s changed what was handed in", c.name)
	}
	if f != api.OK {
		if e != f || x.Files != nil {
			t.Fatalf("%s of %v: %v, error %d, not error %d", c.name, d, x, e, f)
		}
		return d, p
	}
	wantWhole(t, c.name, x, e, y, f, blocks)
	return x, y
}

func TestWhatFollowsOfAllShortRows(t *testing.T) { // P5.6: all rows of three calls with few names and extents
	const blocks = 38
	all := turns([]string{"a", "b", "ab", ""}, [][]api.Extent{of(34, 1), of(35, 2), of(36, 2, 34, 1), of(37, 2)}, blocks)
	for _, a := range all {
		d, p := tried(t, a, api.Dir{}, plain{}, blocks)
		for _, b := range all {
			d, p := tried(t, b, d, p, blocks)
			for _, c := range all {
				tried(t, c, d, p, blocks)
			}
		}
	}
}

func TestWhatFollowsOfLongRows(t *testing.T) { // P5.6: rows of many calls, with directories that get full and empty again
	const blocks = 3000
	var names []string
	for i := range 60 {
		names = append(names, strings.Repeat(string(rune('A'+i%26)), 1+i*7%16)+string(rune('a'+i/26)))
	}
	var lists [][]api.Extent
	for i := range 90 {
		lists = append(lists, ones(34+i*30, 1+i*i%30))
		lists = append(lists, of(60+i*30, 1+i%4, 40+i*30, 2))
	}
	lists = append(lists, nil, of(33, 1), of(2999, 2), ones(100, 65))
	d, p := api.Dir{}, plain{}
	full, seed := map[api.Errno]int{}, uint32(1)
	pick := func(n int) int {
		seed = seed*1664525 + 1013904223
		return int(seed>>8) % n
	}
	for i := range 3000 {
		name, other, l := names[pick(len(names))], names[pick(len(names))], lists[pick(len(lists))]
		one := turns([]string{name}, [][]api.Extent{l}, blocks) // Delete, Create, Rename to itself
		kind := pick(10)
		c := one[1]
		if kind == 0 || i/750%2 == 1 && kind < 6 {
			c = one[0]
		} else if kind == 1 {
			c = turns([]string{name, other}, nil, blocks)[2]
		}
		if _, e := c.plain(p); e != api.OK {
			full[e]++
		}
		d, p = tried(t, c, d, p, blocks)
	}
	for _, e := range []api.Errno{api.ErrNone, api.ErrBad, api.ErrThere, api.ErrRoom, api.ErrName} {
		if full[e] == 0 {
			t.Errorf("error %d was never met", e)
		}
	}
}

func TestCreatedIsFoundOthersStay(t *testing.T) { // P5.6: file by file up to MaxFiles, then deleted one by one
	d := api.Dir{}
	var order []string
	for i := range api.MaxFiles {
		name := string([]byte{byte('a' + i*17%40), 'x'})
		order = append(order, name)
		was := copied(d)
		x, e := files.Create(d, name, of(34+3*i, 2), max)
		if e != api.OK || files.Check(x, max) != api.OK {
			t.Fatalf("Create of %q: error %d", name, e)
		}
		wantFind(t, x, name, of(34+3*i, 2), api.OK)
		for _, f := range was.Files {
			wantFind(t, x, f.Name, f.Extents, api.OK)
		}
		d = x
	}
	for i, name := range order {
		x, e := files.Delete(d, name)
		if e != api.OK || len(x.Files) != api.MaxFiles-1-i || files.Check(x, max) != api.OK {
			t.Fatalf("Delete of %q: %d files, error %d", name, len(x.Files), e)
		}
		wantFind(t, x, name, nil, api.ErrNone)
		for _, f := range x.Files {
			g, _ := files.Find(d, f.Name)
			wantFind(t, x, f.Name, g.Extents, api.OK)
		}
		d = x
	}
}

func TestRenamedHasItsBlocks(t *testing.T) { // P5.6: each of many files, to each name
	d := many(12)
	for _, f := range d.Files {
		for _, to := range []string{"a", "f00", "f05", "f055", "f11", "z", f.Name} {
			x, e := files.Rename(d, f.Name, to)
			if e != api.OK || files.Check(x, max) != api.OK {
				t.Fatalf("Rename(%q, %q): error %d", f.Name, to, e)
			}
			wantFind(t, x, to, f.Extents, api.OK)
			if to != f.Name {
				wantFind(t, x, f.Name, nil, api.ErrNone)
			}
			for _, g := range d.Files {
				if g.Name != f.Name && g.Name != to {
					wantFind(t, x, g.Name, g.Extents, api.OK)
				}
			}
		}
	}
}
