package batch_test

import (
	"bytes"
	"reflect"
	"slices"
	"strings"
	"testing"
	"unsafe"

	"millhand/api"
	"millhand/batch"
)

// spared is a copy of a list with room behind it that is marked.
func spared[T any](l []T, mark T) []T {
	return append(slices.Clone(l), slices.Repeat([]T{mark}, 5)...)[: len(l) : len(l)+5]
}

// whole is a copy of a list with the room behind it.
func whole[T any](l []T) []T { return slices.Clone(l[:cap(l)]) }

// meets tells whether two lists share memory, that of their room too.
func meets[T any](a, b []T) bool {
	if cap(a) == 0 || cap(b) == 0 {
		return false
	}
	size := unsafe.Sizeof(*new(T))
	from, to := uintptr(unsafe.Pointer(unsafe.SliceData(a))), uintptr(unsafe.Pointer(unsafe.SliceData(b)))
	return from < to+uintptr(cap(b))*size && to < from+uintptr(cap(a))*size
}

func TestMeets(t *testing.T) { // that the tests below see what is shared
	l := spared([]int{1, 2}, 9)
	if !meets(l, l[1:]) || !meets(l[1:], l) || !meets(l[:1:1], l[:2]) || meets(l[:1:1], l[1:]) || meets(l, slices.Clone(l)) || l[:3][2] != 9 {
		t.Error("what is shared is not seen, or what is not")
	}
}

// lists are batches, and lists that are none.
func lists() map[string][]api.Op {
	out := good()
	for name, l := range tooMany() {
		out["too many: "+name] = l
	}
	for name, op := range bad() {
		out["bad: "+name] = []api.Op{put("a", "x"), op}
	}
	out["no room"] = full(64)
	return out
}

type answer struct {
	check, write, entries api.Errno
	b                     []byte
	x                     []api.Entry
}

func answered(seq int, l []api.Op) (a answer) {
	a.check = batch.Check(l)
	a.b, a.write = batch.Write(seq, l)
	a.x, a.entries = batch.Entries(seq, l)
	return a
}

func TestOperationsAreOnlyRead(t *testing.T) { // P10.3, R2
	for name, l := range lists() {
		for _, seq := range []int{0, 1, 300, last} {
			mine := spared(l, put("mark", "mark"))
			was := whole(mine)
			one, two := answered(seq, mine), answered(seq, mine)
			if !slices.Equal(whole(mine), was) {
				t.Errorf("%s from %d on: what is handed in is changed", name, seq)
			}
			if !reflect.DeepEqual(one, two) || !reflect.DeepEqual(one, answered(seq, slices.Clone(l))) {
				t.Errorf("%s from %d on: other answers", name, seq)
			}
			if meets(one.b, two.b) || meets(one.x, two.x) {
				t.Errorf("%s from %d on: two answers share memory", name, seq)
			}
			clear(mine[:cap(mine)])
			if !reflect.DeepEqual(one, two) {
				t.Errorf("%s from %d on: what is handed in is kept", name, seq)
			}
			clear(one.b)
			clear(one.x)
			if !reflect.DeepEqual(two, answered(seq, slices.Clone(l))) {
				t.Errorf("%s from %d on: an answer is kept", name, seq)
			}
		}
	}
}

func TestBytesAreOnlyRead(t *testing.T) { // P10.3, R2
	rows := map[string][]byte{
		"none":          nil,
		"a byte behind": {1, 1, 0, 1, 97, 0, 0},
		"cut short":     {1, 1, 0, 1},
		"too long":      make([]byte, 16385),
		"no batch":      make([]byte, 16384),
	}
	for name, l := range good() {
		rows[name] = plain(300, l)
	}
	for name, b := range rows {
		mine := spared(b, 201)
		was := whole(mine)
		seq, l, e := batch.Read(mine)
		again, m, f := batch.Read(mine)
		if !bytes.Equal(whole(mine), was) {
			t.Errorf("%s: what is handed in is changed", name)
		}
		if seq != again || e != f || !slices.Equal(l, m) || meets(l, m) {
			t.Errorf("%s: two answers that are not the same, or share memory", name)
		}
		copied := slices.Clone(l)
		for i, op := range copied {
			copied[i] = api.Op{Key: strings.Clone(op.Key), Dead: op.Dead, Value: strings.Clone(op.Value)}
		}
		clear(mine[:cap(mine)])
		if !slices.Equal(l, copied) {
			t.Errorf("%s: what is read changes with the bytes", name)
		}
		clear(m)
		if !slices.Equal(l, copied) {
			t.Errorf("%s: what is read changes with another answer", name)
		}
		if seq, m, f = batch.Read(b); seq != again || !slices.Equal(m, copied) || f != e {
			t.Errorf("%s: read once more: %d, %v, error %d", name, seq, m, f)
		}
	}
}

func TestSpareRoomIsNotRead(t *testing.T) { // P10.3: what stands behind the bytes counts for nothing
	for name, l := range good() {
		b := plain(300, l)
		for n := range min(len(b), 2000) {
			wantUnread(t, name+", the rest in the room behind", b[:n:len(b)], api.ErrBad)
		}
	}
}
