package mem_test

import (
	"reflect"
	"slices"
	"testing"
	"unsafe"

	"millhand/api"
	"millhand/mem"
)

// spared is a copy of a list with room behind it that is marked.
func spared[T any](l []T, mark T) []T {
	return append(slices.Clone(l), slices.Repeat([]T{mark}, 70)...)[: len(l) : len(l)+70]
}

// whole is a copy of a list with the room behind it.
func whole[T any](l []T) []T { return slices.Clone(l[:cap(l)]) }

// meets tells whether two lists share memory, that of their room too.
func meets[T any](a, b []T) bool {
	if cap(a) == 0 || cap(b) == 0 {
		return false
	}
	size := unsafe.Sizeof(*new(T))
	from, to := uintptr(unsafe.Pointer(unsafe.SliceData(a))), uintptr(unsafe.Pointer(unsafe.SliceData(b)))
	return from < to+uintptr(cap(b))*size && to < from+uintptr(cap(a))*size
}

func TestMeets(t *testing.T) { // that the tests below see what is shared
	l := spared([]int{1, 2}, 9)
	if !meets(l, l[1:]) || !meets(l[1:], l) || !meets(l[:1:1], l[:2]) || meets(l[:1:1], l[1:]) || meets(l, slices.Clone(l)) || l[:3][2] != 9 {
		t.Error("what is shared is not seen, or what is not")
	}
}

type answer struct {
	check, apply, get, ranged, sized api.Errno
	m                                api.Mem
	x                                api.Entry
	is                               bool
	l                                []api.Entry
	n                                int
}

func (a answer) lists() [][]api.Entry { return [][]api.Entry{a.m.Entries, a.l} }

type asked struct {
	m        api.Mem
	seq      int
	l        []api.Op
	from, to string
}

func (q asked) answered() (a answer) {
	a.check = mem.Check(q.m)
	a.m, a.apply = mem.Apply(q.m, q.seq, q.l)
	a.x, a.is, a.get = mem.Get(q.m, q.from, q.seq)
	a.l, a.ranged = mem.Range(q.m, q.from, q.to)
	a.n, a.sized = mem.Size(q.m)
	return a
}

// questions are good ones and bad ones of one m.
func questions(m api.Mem) (out []asked) {
	for _, seq := range []int{0, 3, 1 << 30} {
		for _, l := range [][]api.Op{nil, {put("k", "x")}, {put("z", "x"), put("\x00", ""), dead("b"), put("a", "")}, slices.Repeat([]api.Op{dead("a")}, 64), {{}}} {
			for _, keys := range [][2]string{{"", ""}, {"a", ""}, {"a", "b"}, {"z", "a"}, {text(65), ""}, {"k", "k"}} {
				out = append(out, asked{m, seq, l, keys[0], keys[1]})
			}
		}
	}
	return out
}

func entries() map[string]api.Mem {
	out := good()
	refused(func(name string, m api.Mem, _ api.Errno) {
		if len(m.Entries) < 5 || len(m.Entries) == 513 {
			out["refused: "+name] = m
		}
	})
	return out
}

func TestArgumentsAreOnlyRead(t *testing.T) { // P11.4, R2
	for name, m := range entries() {
		for _, q := range questions(m) {
			mine := q
			mine.m.Entries, mine.l = spared(m.Entries, e("mark", 7, "mark")), spared(q.l, put("mark", "mark"))
			wasM, wasL := whole(mine.m.Entries), whole(mine.l)
			one, two := mine.answered(), mine.answered()
			if !slices.Equal(whole(mine.m.Entries), wasM) || !slices.Equal(whole(mine.l), wasL) {
				t.Errorf("%s: what is handed in is changed", name)
			}
			fresh := q
			fresh.m.Entries, fresh.l = slices.Clone(m.Entries), slices.Clone(q.l)
			if !reflect.DeepEqual(one, two) || !reflect.DeepEqual(one, fresh.answered()) {
				t.Errorf("%s: other answers", name)
			}
			for i, x := range one.lists() {
				for j, y := range append(two.lists(), one.lists()...) {
					if j != i+2 && meets(x, y) || meets(x, mine.m.Entries) {
						t.Errorf("%s: answers %d and %d share memory, or with what is handed in", name, i, j)
					}
				}
			}
			clear(mine.m.Entries[:cap(mine.m.Entries)])
			clear(mine.l[:cap(mine.l)])
			if !reflect.DeepEqual(one, two) || !reflect.DeepEqual(one, fresh.answered()) {
				t.Errorf("%s: what is handed in is kept", name)
			}
			for _, l := range one.lists() {
				clear(l[:cap(l)])
			}
			if !reflect.DeepEqual(two, fresh.answered()) {
				t.Errorf("%s: an answer is kept", name)
			}
		}
	}
}

func TestAppliedTwice(t *testing.T) { // P11.4: two batches to the same entries know nothing of each other
	m := applied(t, example(), 10, put("m", "1"))
	one := applied(t, m, 20, put("b", "one"), put("zz", "one"))
	two := applied(t, m, 20, put("b", "two"), put("zz", "two"))
	wantOne, wantTwo := plainApply(m, 20, []api.Op{put("b", "one"), put("zz", "one")}), plainApply(m, 20, []api.Op{put("b", "two"), put("zz", "two")})
	if !same(one, wantOne) || !same(two, wantTwo) || len(m.Entries) != 4 {
		t.Errorf("%v, %v, %v", m, one, two)
	}
}
