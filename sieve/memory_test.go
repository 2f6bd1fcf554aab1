package sieve_test

import (
	"bytes"
	"slices"
	"testing"
	"unsafe"

	"millhand/api"
	"millhand/sieve"
)

// spared is a copy of a list with room behind it that is marked.
func spared[T any](l []T, mark T) []T {
	return append(slices.Clone(l), slices.Repeat([]T{mark}, 70)...)[: len(l) : len(l)+70]
}

// whole is a copy of a list with the room behind it.
func whole[T any](l []T) []T { return slices.Clone(l[:cap(l)]) }

// meets tells whether two lists of bytes share memory, that of their room too.
func meets(a, b []byte) bool {
	if cap(a) == 0 || cap(b) == 0 {
		return false
	}
	from, to := uintptr(unsafe.Pointer(unsafe.SliceData(a))), uintptr(unsafe.Pointer(unsafe.SliceData(b)))
	return from < to+uintptr(cap(b)) && to < from+uintptr(cap(a))
}

func TestMeets(t *testing.T) { // that the tests below see what is shared
	l := spared([]byte{1, 2}, 9)
	if !meets(l, l[1:]) || !meets(l[1:], l) || !meets(l[:1:1], l[:2]) || meets(l[:1:1], l[1:]) || meets(l, slices.Clone(l)) || l[:3][2] != 9 {
		t.Error("what is shared is not seen, or what is not")
	}
}

func TestKeysAreOnlyRead(t *testing.T) { // P13.3, R2
	lists := good()
	for name, c := range refused() {
		lists["refused: "+name] = c.keys
	}
	for name, keys := range lists {
		mine := spared(keys, "mark")
		was := whole(mine)
		one, err := sieve.Make(mine)
		two, err2 := sieve.Make(mine)
		if !slices.Equal(whole(mine), was) {
			t.Errorf("%s: what is handed in is changed", name)
		}
		if !bytes.Equal(one, two) || err != err2 || meets(one, two) {
			t.Errorf("%s: two answers that are not the same, or share memory", name)
		}
		clear(mine[:cap(mine)])
		clear(one[:cap(one)])
		if again, f := sieve.Make(keys); !bytes.Equal(again, two) || f != err {
			t.Errorf("%s: an answer, or what is handed in, is kept", name)
		}
	}
}

func TestSievesAreOnlyRead(t *testing.T) { // P13.3, R2
	rows := map[string][]byte{
		"nil":       nil,
		"too short": {1, 2, 3, 4, 5, 6, 7},
		"too long":  bytes.Repeat([]byte{255}, 1025),
		"all set":   bytes.Repeat([]byte{255}, 1024),
		"noughts":   make([]byte, 8),
	}
	for name, keys := range good() {
		rows[name+", made"] = made(t, keys)
	}
	for name, b := range rows {
		for _, key := range []string{"a", "z", "", text(64), text(65)} {
			mine := spared(b, 255)
			was := whole(mine)
			is, err := sieve.May(mine, key)
			is2, err2 := sieve.May(mine, key)
			err3, err4 := sieve.Check(mine), sieve.Check(mine)
			if !bytes.Equal(whole(mine), was) {
				t.Errorf("%s: what is handed in is changed", name)
			}
			if is != is2 || err != err2 || err3 != err4 {
				t.Errorf("%s, %.9q: two answers that are not the same", name, key)
			}
			clear(mine[:cap(mine)])
			if is2, err2 := sieve.May(b, key); is != is2 || err != err2 {
				t.Errorf("%s, %.9q: what is handed in is kept", name, key)
			}
		}
	}
}

func TestSpareRoomIsNotRead(t *testing.T) { // P13.3: what stands behind a list counts for nothing
	keys := numbered(100)
	for n := range keys {
		if b := made(t, keys[:n:len(keys)]); !bytes.Equal(b, plain(keys[:n], max(8, n))) {
			t.Errorf("%d keys with more behind them: %v", n, b)
		}
	}
	full := bytes.Repeat([]byte{255}, 1024)
	for n := range 8 {
		if err := sieve.Check(full[:n]); err != api.ErrBad {
			t.Errorf("%d bytes with more behind them: error %d", n, err)
		}
	}
	for n := 8; n < 200; n++ {
		b := spared(make([]byte, n), 255)
		for _, key := range keys {
			wantMay(t, b, key, false)
		}
	}
}
