package block_test

import (
	"bytes"
	"reflect"
	"slices"
	"strings"
	"testing"
	"unsafe"

	"millhand/api"
	"millhand/block"
)

// spared is a copy of a list with room behind it that is marked.
func spared[T any](l []T, mark T) []T {
	return append(slices.Clone(l), slices.Repeat([]T{mark}, 70)...)[: len(l) : len(l)+70]
}

// whole is a copy of a list with the room behind it.
func whole[T any](l []T) []T { return slices.Clone(l[:cap(l)]) }

// meets tells whether two lists share memory, that of their room too.
func meets[T any](a, b []T) bool {
	if cap(a) == 0 || cap(b) == 0 {
		return false
	}
	size := unsafe.Sizeof(*new(T))
	from, to := uintptr(unsafe.Pointer(unsafe.SliceData(a))), uintptr(unsafe.Pointer(unsafe.SliceData(b)))
	return from < to+uintptr(cap(b))*size && to < from+uintptr(cap(a))*size
}

func TestMeets(t *testing.T) { // that the tests below see what is shared
	l := spared([]int{1, 2}, 9)
	if !meets(l, l[1:]) || !meets(l[1:], l) || !meets(l[:1:1], l[:2]) || meets(l[:1:1], l[1:]) || meets(l, slices.Clone(l)) || l[:3][2] != 9 {
		t.Error("what is shared is not seen, or what is not")
	}
}

func TestEntriesAreOnlyRead(t *testing.T) { // P12.3, R2
	lists := good()
	refused(func(name string, l []api.Entry, _ api.Errno) { lists["refused: "+name] = l })
	for name, l := range lists {
		mine := spared(l, e("mark", 7, "mark"))
		was := whole(mine)
		one, err := block.Write(mine)
		two, err2 := block.Write(mine)
		if !slices.Equal(whole(mine), was) {
			t.Errorf("%s: what is handed in is changed", name)
		}
		if !bytes.Equal(one, two) || err != err2 || meets(one, two) {
			t.Errorf("%s: two answers that are not the same, or share memory", name)
		}
		clear(mine[:cap(mine)])
		if !bytes.Equal(one, two) {
			t.Errorf("%s: what is handed in is kept", name)
		}
		clear(one[:cap(one)])
		if again, f := block.Write(l); !bytes.Equal(again, two) || f != err {
			t.Errorf("%s: an answer is kept", name)
		}
	}
}

// rows are blocks, and bytes that are none.
func rows() map[string][]byte {
	out := map[string][]byte{
		"none":          nil,
		"a byte behind": {1, 0, 1, 97, 1, 0, 0, 0},
		"cut short":     {1, 0, 1},
		"too long":      make([]byte, 2049),
		"no block":      make([]byte, 2048),
	}
	for name, l := range good() {
		out[name] = plain(l)
	}
	return out
}

// copied is a list whose texts share nothing with those of l.
func copied(l []api.Entry) []api.Entry {
	out := slices.Clone(l)
	for i := range out {
		out[i].Key, out[i].Value = strings.Clone(out[i].Key), strings.Clone(out[i].Value)
	}
	return out
}

func TestBytesAreOnlyRead(t *testing.T) { // P12.3, R2
	for name, b := range rows() {
		mine := spared(b, 201)
		was := whole(mine)
		l, err := block.Read(mine)
		m, err2 := block.Read(mine)
		x, is, err3 := block.Find(mine, "ab", 9)
		y, is2, err4 := block.Find(mine, "ab", 9)
		if !bytes.Equal(whole(mine), was) {
			t.Errorf("%s: what is handed in is changed", name)
		}
		if err != err2 || !slices.Equal(l, m) || meets(l, m) || x != y || is != is2 || err3 != err4 {
			t.Errorf("%s: two answers that are not the same, or share memory", name)
		}
		kept := copied(append(slices.Clone(l), x))
		clear(mine[:cap(mine)])
		if !reflect.DeepEqual(append(slices.Clone(l), x), kept) {
			t.Errorf("%s: what is read changes with the bytes", name)
		}
		clear(m[:cap(m)])
		if !reflect.DeepEqual(append(slices.Clone(l), x), kept) {
			t.Errorf("%s: what is read changes with another answer", name)
		}
		if m, f := block.Read(b); !slices.Equal(m, l) || f != err {
			t.Errorf("%s: read once more: %v, error %d", name, m, f)
		}
	}
}

func TestSpareRoomIsNotRead(t *testing.T) { // P12.3: what stands behind the bytes counts for nothing
	for name, l := range good() {
		b := plain(l)
		for n := range b {
			wantUnread(t, name+", the rest in the room behind", b[:n:len(b)], api.ErrBad)
		}
	}
}
