package pick_test

import (
	"reflect"
	"slices"
	"testing"
	"unsafe"

	"millhand/api"
	"millhand/pick"
)

// spared is a copy of a list with room behind it that is marked.
func spared[T any](l []T, mark T) []T {
	return append(slices.Clone(l), slices.Repeat([]T{mark}, 20)...)[: len(l) : len(l)+20]
}

// copied is a deep copy, each list of it with marked room behind.
func copied(v api.Version) api.Version {
	mark := table("mark", "m", "n")
	v.Levels = spared(v.Levels, tables(mark))
	for i, l := range v.Levels {
		v.Levels[i] = spared(l, mark)
	}
	return v
}

// contents is a version, with what stands behind its lists.
func contents(v api.Version) api.Version {
	v.Levels = slices.Clone(v.Levels[:cap(v.Levels)])
	for i, l := range v.Levels {
		v.Levels[i] = slices.Clone(l[:cap(l)])
	}
	return v
}

// meets tells whether two lists share memory, that of their room too.
func meets(a, b []api.Meta) bool {
	if cap(a) == 0 || cap(b) == 0 {
		return false
	}
	size := unsafe.Sizeof(api.Meta{})
	from, to := uintptr(unsafe.Pointer(unsafe.SliceData(a))), uintptr(unsafe.Pointer(unsafe.SliceData(b)))
	return from < to+uintptr(cap(b))*size && to < from+uintptr(cap(a))*size
}

func TestMeets(t *testing.T) { // that the tests below see what is shared
	l := spared(heap(2), api.Meta{})
	if !meets(l, l[1:]) || !meets(l[1:], l) || !meets(l[:1:1], l[:2]) || meets(l[:1:1], l[1:]) || meets(l, slices.Clone(l)) {
		t.Error("what is shared is not seen, or what is not")
	}
}

type answer struct {
	scores []int
	need   bool
	work   api.Work
	errors []api.Errno
}

func answered(v api.Version) (a answer) {
	for level := -1; level < 5; level++ {
		n, err := pick.Score(v, level)
		a.scores, a.errors = append(a.scores, n), append(a.errors, err)
	}
	is, err := pick.Need(v)
	w, other := pick.Pick(v)
	a.need, a.work, a.errors = is, w, append(a.errors, err, other)
	return a
}

// lists are all lists of tables of answers, and of a version.
func lists(v api.Version, answers ...answer) (out [][]api.Meta) {
	for _, a := range answers {
		out = append(out, a.work.Upper, a.work.Lower)
	}
	return append(out, v.Levels[:cap(v.Levels)]...)
}

func TestMemory(t *testing.T) { // P18.3, R2
	four, _, _ := exampleOfFour()
	all := map[string]api.Version{"four": four, "none": of(), "not nil": of(tables(), tables(), tables(), tables())}
	for name, many := range map[string][4]int{"level 0": {5, 6}, "level 1": {3, 10, 4}, "level 2": {3, 3, 18, 4}, "no lower ones": {0, 9}, "none too full": {3, 8, 16, 5}} {
		all[name] = rows(many)
	}
	refused(func(name string, v api.Version, want api.Errno) { all["refused: "+name] = v })
	for name, v := range all {
		if len(slices.Concat(v.Levels...)) > 1000 {
			continue
		}
		mine := copied(v)
		was := contents(mine)
		one, two := answered(mine), answered(mine)
		if !reflect.DeepEqual(contents(mine), was) {
			t.Errorf("%s: what is handed in is changed", name)
		}
		fresh := answered(copied(v))
		if !reflect.DeepEqual(one, two) || !reflect.DeepEqual(one, fresh) {
			t.Errorf("%s: other answers", name)
		}
		l := lists(mine, one, two)
		for i, x := range l[:4] {
			if slices.ContainsFunc(l[i+1:], func(y []api.Meta) bool { return meets(x, y) }) {
				t.Errorf("%s: tables share memory", name)
			}
		}
		for _, x := range l[4:] {
			clear(x[:cap(x)])
		}
		if !reflect.DeepEqual(one, fresh) || !reflect.DeepEqual(answered(copied(v)), fresh) {
			t.Errorf("%s: what is handed in is kept", name)
		}
		for _, x := range l[:2] {
			clear(x[:cap(x)])
		}
		if !reflect.DeepEqual(two, fresh) || !reflect.DeepEqual(answered(copied(v)), fresh) {
			t.Errorf("%s: an answer is kept", name)
		}
	}
}
