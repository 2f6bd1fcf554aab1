package merge_test

import (
	"reflect"
	"slices"
	"testing"
	"unsafe"

	"millhand/api"
	"millhand/merge"
)

// spared is a copy of a list with room behind it that is marked.
func spared[T any](l []T, mark T) []T {
	return append(slices.Clone(l), slices.Repeat([]T{mark}, 20)...)[: len(l) : len(l)+20]
}

// whole is a copy of a list with the room behind it.
func whole[T any](l []T) []T { return slices.Clone(l[:cap(l)]) }

// meets tells whether two lists share memory, that of their room too.
func meets[T any](a, b []T) bool {
	if cap(a) == 0 || cap(b) == 0 {
		return false
	}
	size := unsafe.Sizeof(*new(T))
	from, to := uintptr(unsafe.Pointer(unsafe.SliceData(a))), uintptr(unsafe.Pointer(unsafe.SliceData(b)))
	return from < to+uintptr(cap(b))*size && to < from+uintptr(cap(a))*size
}

func TestMeets(t *testing.T) { // that the tests below see what is shared
	l := spared([]int{1, 2}, 9)
	if !meets(l, l[1:]) || !meets(l[1:], l) || !meets(l[:1:1], l[:2]) || meets(l[:1:1], l[1:]) || meets(l, slices.Clone(l)) || l[:3][2] != 9 {
		t.Error("what is shared is not seen, or what is not")
	}
}

type answer struct {
	rows   api.Errno
	all    []api.Entry
	errors []api.Errno
	lists  [][]api.Entry
}

// answered is what all calls answer of rows, and of each of them at a number.
func answered(l [][]api.Entry, seq int) (a answer) {
	a.all, a.rows = merge.Rows(l)
	add := func(x []api.Entry, err api.Errno) {
		a.lists, a.errors = append(a.lists, x), append(a.errors, err)
	}
	for _, x := range l {
		a.errors = append(a.errors, merge.Check(x))
		add(merge.At(x, seq))
		add(merge.Live(x, seq))
		add(merge.Drop(x, seq, false))
		add(merge.Drop(x, seq, true))
	}
	return a
}

// copied is a deep copy of rows, each of them and all of them with marked room behind.
func copied(l [][]api.Entry) [][]api.Entry {
	out := make([][]api.Entry, len(l))
	for i, x := range l {
		out[i] = spared(x, e("mark", 7, "mark"))
	}
	return spared(out, row(e("mark", 8, "mark")))
}

// contents is all that rows hold, with what stands behind them.
func contents(l [][]api.Entry) (out [][]api.Entry) {
	for _, x := range l[:cap(l)] {
		out = append(out, whole(x))
	}
	return out
}

// manyRows are rows of all kinds, good ones and bad ones.
func manyRows() map[string][][]api.Entry {
	out := map[string][][]api.Entry{
		"no row":       rows(),
		"rows of none": rows(nil, row()),
		"three":        rows(row(e("a", 3, "x"), gone("c", 2)), row(gone("a", 2)), row(e("a", 1, ""), e("b", 1, "y"))),
		"one twice":    rows(example(), row(e("y", 1, "")), example()),
	}
	for name, l := range good() {
		out[name] = rows(l)
		out[name+", and none"] = rows(nil, l, row())
		out[name+", and one"] = rows(row(e("zz", 1, "")), l)
	}
	for name, l := range bad() {
		if len(l) < 5 {
			out["refused: "+name] = rows(example(), l)
		}
	}
	return out
}

func TestArgumentsAreOnlyRead(t *testing.T) { // P15.5, R2
	for name, l := range manyRows() {
		for _, seq := range []int{-1, 0, 1, 2, 3, 500, maxSeq, maxSeq + 1} {
			mine := copied(l)
			was := contents(mine)
			one, two := answered(mine, seq), answered(mine, seq)
			if !reflect.DeepEqual(contents(mine), was) {
				t.Errorf("%s: what is handed in is changed", name)
			}
			fresh := answered(copied(l), seq)
			if !reflect.DeepEqual(one, two) || !reflect.DeepEqual(one, fresh) {
				t.Errorf("%s: other answers", name)
			}
			apart(t, name, slices.Concat(one.lists, rows(one.all), two.lists, rows(two.all)), mine)
			for _, x := range mine {
				clear(x[:cap(x)])
			}
			clear(mine[:cap(mine)])
			if !reflect.DeepEqual(one, fresh) || !reflect.DeepEqual(answered(copied(l), seq), fresh) {
				t.Errorf("%s: what is handed in is kept", name)
			}
			for _, x := range append(one.lists, one.all) {
				clear(x[:cap(x)])
			}
			if !reflect.DeepEqual(two, fresh) || !reflect.DeepEqual(answered(copied(l), seq), fresh) {
				t.Errorf("%s: an answer is kept", name)
			}
		}
	}
}

// apart wants no two of the answers to share memory, nor one of them with what was handed in.
func apart(t *testing.T, name string, answers, given [][]api.Entry) {
	t.Helper()
	for i, x := range answers {
		for _, y := range append(slices.Clone(answers[i+1:]), given...) {
			if meets(x, y) {
				t.Errorf("%s: answers share memory, or one with what is handed in", name)
			}
		}
	}
}
