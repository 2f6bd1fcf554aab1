package table_test

import (
	"bytes"
	"slices"
	"strings"
	"testing"
	"unsafe"

	"millhand/api"
	"millhand/table"
)

// spared is a copy of a list with room behind it that is marked.
func spared[T any](l []T, mark T) []T {
	return append(slices.Clone(l), slices.Repeat([]T{mark}, 70)...)[: len(l) : len(l)+70]
}

// whole is a copy of a list with the room behind it.
func whole[T any](l []T) []T { return slices.Clone(l[:cap(l)]) }

// meets tells whether two lists share memory, that of their room too.
func meets[T any](a, b []T) bool {
	if cap(a) == 0 || cap(b) == 0 {
		return false
	}
	size := unsafe.Sizeof(*new(T))
	from, to := uintptr(unsafe.Pointer(unsafe.SliceData(a))), uintptr(unsafe.Pointer(unsafe.SliceData(b)))
	return from < to+uintptr(cap(b))*size && to < from+uintptr(cap(a))*size
}

func TestMeets(t *testing.T) { // that the tests below see what is shared
	l := spared([]int{1, 2}, 9)
	if !meets(l, l[1:]) || !meets(l[1:], l) || !meets(l[:1:1], l[:2]) || meets(l[:1:1], l[1:]) || meets(l, slices.Clone(l)) || l[:3][2] != 9 {
		t.Error("what is shared is not seen, or what is not")
	}
}

func TestEntriesAreOnlyRead(t *testing.T) { // P14.3, R2
	lists := good()
	refused(func(name string, l []api.Entry, _ api.Errno) { lists["refused: "+name] = l })
	for name, l := range lists {
		mine := spared(l, e("mark", 7, "mark"))
		was := whole(mine)
		one, m, err := table.Build(mine)
		two, m2, err2 := table.Build(mine)
		if !slices.Equal(whole(mine), was) {
			t.Errorf("%s: what is handed in is changed", name)
		}
		if !bytes.Equal(one, two) || m != m2 || err != err2 || meets(one, two) {
			t.Errorf("%s: two answers that are not the same, or share memory", name)
		}
		clear(mine[:cap(mine)])
		if !bytes.Equal(one, two) || m != m2 {
			t.Errorf("%s: what is handed in is kept", name)
		}
		clear(one[:cap(one)])
		if again, m3, f := table.Build(l); !bytes.Equal(again, two) || m3 != m || f != err {
			t.Errorf("%s: an answer is kept", name)
		}
	}
}

// byteRows are tables, and bytes that are none.
func byteRows() map[string][]byte {
	out := map[string][]byte{
		"none":          nil,
		"a byte behind": append(plain(example()), 0),
		"cut short":     plain(example())[:36],
		"too long":      make([]byte, 16385),
		"no table":      make([]byte, 16384),
	}
	for name, l := range good() {
		out[name] = plain(l)
	}
	return out
}

// copied is a list whose texts share nothing with those of l.
func copied(l []api.Entry) []api.Entry {
	out := slices.Clone(l)
	for i := range out {
		out[i].Key, out[i].Value = strings.Clone(out[i].Key), strings.Clone(out[i].Value)
	}
	return out
}

func TestBytesAreOnlyRead(t *testing.T) { // P14.3, R2
	for name, b := range byteRows() {
		mine := spared(b, 201)
		was := whole(mine)
		l, err := table.Read(mine)
		m, err2 := table.Read(mine)
		x, is, err3 := table.Get(mine, "k", 9)
		y, is2, err4 := table.Get(mine, "k", 9)
		part, err5 := table.Range(mine, "a", "")
		part2, err6 := table.Range(mine, "a", "")
		if !bytes.Equal(whole(mine), was) {
			t.Errorf("%s: what is handed in is changed", name)
		}
		if err != err2 || !slices.Equal(l, m) || x != y || is != is2 || err3 != err4 || err5 != err6 || !slices.Equal(part, part2) {
			t.Errorf("%s: two answers that are not the same", name)
		}
		if meets(l, m) || meets(part, part2) || meets(l, part) {
			t.Errorf("%s: two answers that share memory", name)
		}
		all := func() []api.Entry { return append(slices.Concat(l, part), x) }
		kept := copied(all())
		clear(mine[:cap(mine)])
		if !slices.Equal(all(), kept) {
			t.Errorf("%s: what is read changes with the bytes", name)
		}
		clear(m[:cap(m)])
		clear(part2[:cap(part2)])
		if !slices.Equal(all(), kept) {
			t.Errorf("%s: what is read changes with another answer", name)
		}
		if m, f := table.Read(b); !slices.Equal(m, l) || f != err {
			t.Errorf("%s: read once more: %d entries, error %d", name, len(m), f)
		}
	}
}

func TestSpareRoomIsNotRead(t *testing.T) { // P14.3: what stands behind the bytes, or the entries, counts for nothing
	for _, name := range []string{"the example", "few, mixed", "the longest, of a key"} {
		b := plain(good()[name])
		for n := range b {
			wantUnread(t, name+", the rest in the room behind", b[:n:len(b)], api.ErrBad)
		}
	}
	l := mixed(80, 100)
	for n := range l {
		wantBuilt(t, "with more behind", l[:n:len(l)])
	}
}
