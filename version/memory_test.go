package version_test

import (
	"reflect"
	"slices"
	"testing"
	"unsafe"

	"millhand/api"
	"millhand/version"
)

// spared is a copy of a list with room behind it that is marked.
func spared[T any](l []T, mark T) []T {
	return append(slices.Clone(l), slices.Repeat([]T{mark}, 20)...)[: len(l) : len(l)+20]
}

// meets tells whether two lists share memory, that of their room too.
func meets[T, U any](a []T, b []U) bool {
	if cap(a) == 0 || cap(b) == 0 {
		return false
	}
	from, to := uintptr(unsafe.Pointer(unsafe.SliceData(a))), uintptr(unsafe.Pointer(unsafe.SliceData(b)))
	return from < to+uintptr(cap(b))*unsafe.Sizeof(*new(U)) && to < from+uintptr(cap(a))*unsafe.Sizeof(*new(T))
}

func TestMeets(t *testing.T) { // that the tests below see what is shared
	l := spared([]int{1, 2}, 9)
	if !meets(l, l[1:]) || !meets(l[1:], l) || !meets(l[:1:1], l[:2]) || meets(l[:1:1], l[1:]) || meets(l, slices.Clone(l)) || l[:3][2] != 9 {
		t.Error("what is shared is not seen, or what is not")
	}
}

// given is what is handed in to all calls.
type given struct {
	v  api.Version
	w  api.Work
	in []api.Meta
}

// copied is a deep copy, each list of it with marked room behind.
func copied(g given) given {
	mark := table("mark", "m", "n")
	g.v.Levels = spared(g.v.Levels, tables(mark))
	for i, l := range g.v.Levels {
		g.v.Levels[i] = spared(l, mark)
	}
	g.w.Upper, g.w.Lower, g.in = spared(g.w.Upper, mark), spared(g.w.Lower, mark), spared(g.in, mark)
	return g
}

// lists are all lists of tables that are handed in.
func (g given) lists() [][]api.Meta {
	return append(slices.Clone(g.v.Levels), g.w.Upper, g.w.Lower, g.in)
}

// contents is all that is handed in, with what stands behind it.
func contents(g given) given {
	g.v.Levels = slices.Clone(g.v.Levels[:cap(g.v.Levels)])
	for i, l := range g.v.Levels {
		g.v.Levels[i] = slices.Clone(l[:cap(l)])
	}
	g.w.Upper, g.w.Lower, g.in = slices.Clone(g.w.Upper[:cap(g.w.Upper)]), slices.Clone(g.w.Lower[:cap(g.w.Lower)]), slices.Clone(g.in[:cap(g.in)])
	return g
}

// wipe makes other ones of all lists of tables, and of their room.
func wipe(lists [][]api.Meta) {
	for _, l := range lists {
		clear(l[:cap(l)])
	}
}

type answer struct {
	errors   []api.Errno
	same     []bool
	versions []api.Version
	lists    [][]api.Meta
	names    []string
}

// answered is what all calls answer.
func answered(g given) (a answer) {
	add := func(v api.Version, err api.Errno) {
		a.versions, a.errors = append(a.versions, v), append(a.errors, err)
	}
	a.errors = append(a.errors, version.Check(g.v))
	add(version.New(g.v.Log))
	add(version.New(g.v.Log))
	for _, m := range append(slices.Clone(g.in), table("new", "a", "b"), api.Meta{}) {
		add(version.Add(g.v, m))
	}
	add(version.Swap(g.v, g.w, g.in))
	add(version.Swap(g.v, api.Work{Level: g.w.Level}, nil))
	for level := -1; level < 5; level++ {
		l, err := version.Overlap(g.v, level, "a", "z")
		a.lists, a.errors = append(a.lists, l), append(a.errors, err)
	}
	names, err := version.Names(g.v)
	a.names, a.errors = names, append(a.errors, err)
	for _, v := range append(slices.Clone(a.versions), g.v, example()) {
		a.same = append(a.same, version.Same(g.v, v), version.Same(v, g.v))
	}
	return a
}

// all are the lists of tables of an answer.
func (a answer) all() [][]api.Meta {
	out := slices.Clone(a.lists)
	for _, v := range a.versions {
		out = append(out, v.Levels...)
	}
	return out
}

// manyGiven is what is handed in, of all kinds: calls go well, or are refused.
func manyGiven() map[string]given {
	out := map[string]given{}
	all := good()
	for name, v := range bad() {
		if len(v.Levels) < 10 {
			all["refused: "+name] = v
		}
	}
	all["refused: too many"] = of(heap(33))
	for name, v := range all {
		out[name] = given{v: v, in: tables(table("new", "zz", "zz"))}
		if len(v.Levels) > 2 {
			out[name+", all swapped"] = given{v: v, w: work(v, 0), in: tables(table("n", "m", "m"), table("o", "b", "f"))}
			out[name+", lower"] = given{v: v, w: api.Work{Level: 1, Lower: v.Levels[2]}, in: row(3)}
			out[name+", not there"] = given{v: v, w: api.Work{Upper: row(2)}, in: row(3)}
		}
	}
	return out
}

func TestArgumentsAreOnlyRead(t *testing.T) { // P16.5, R2
	for name, g := range manyGiven() {
		mine := copied(g)
		was := contents(mine)
		one, two := answered(mine), answered(mine)
		if !reflect.DeepEqual(contents(mine), was) {
			t.Errorf("%s: what is handed in is changed", name)
		}
		fresh := answered(copied(g))
		if !reflect.DeepEqual(one, two) || !reflect.DeepEqual(one, fresh) {
			t.Errorf("%s: other answers", name)
		}
		apart(t, name, []answer{one, two}, mine)
		wipe(mine.lists())
		clear(mine.v.Levels[:cap(mine.v.Levels)])
		if !reflect.DeepEqual(one, fresh) || !reflect.DeepEqual(answered(copied(g)), fresh) {
			t.Errorf("%s: what is handed in is kept", name)
		}
		wipe(one.all())
		clear(one.names)
		for _, v := range one.versions {
			clear(v.Levels[:cap(v.Levels)])
		}
		if !reflect.DeepEqual(two, fresh) || !reflect.DeepEqual(answered(copied(g)), fresh) {
			t.Errorf("%s: an answer is kept", name)
		}
	}
}

// apart wants no two lists of the answers to share memory, nor one of them with what was handed in.
func apart(t *testing.T, name string, answers []answer, g given) {
	t.Helper()
	var of [][]api.Meta
	levels := [][][]api.Meta{g.v.Levels}
	var names [][]string
	for _, a := range answers {
		of, names = append(of, a.all()...), append(names, a.names)
		for _, v := range a.versions {
			levels = append(levels, v.Levels)
		}
	}
	for i, x := range of {
		for _, y := range append(slices.Clone(of[i+1:]), g.lists()...) {
			if meets(x, y) {
				t.Errorf("%s: tables share memory", name)
			}
		}
		for _, y := range levels {
			if meets(x, y) {
				t.Errorf("%s: tables share memory with levels", name)
			}
		}
	}
	for i, x := range levels {
		for _, y := range levels[i+1:] {
			if meets(x, y) {
				t.Errorf("%s: levels share memory", name)
			}
		}
	}
	if meets(names[0], names[1]) {
		t.Errorf("%s: names share memory", name)
	}
}
