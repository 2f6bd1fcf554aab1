package merge_test

import (
	"math"
	"slices"
	"testing"

	"millhand/api"
	"millhand/merge"
)

func TestCheck(t *testing.T) { // P15.1
	for name, l := range good() {
		if err := merge.Check(l); err != api.OK {
			t.Errorf("%s: error %d", name, err)
		}
	}
	refused(func(name string, l []api.Entry, want api.Errno) {
		if err := merge.Check(l); err != want {
			t.Errorf("%s: error %d, not %d", name, err, want)
		}
	})
}

func TestCheckHowMany(t *testing.T) { // P15.1, MaxEntries: at it and one more
	for _, n := range []int{0, 1, 512, 513, 1024, 1025, 65535, 65536, 65537, 70000} {
		want := api.OK
		if n > 65536 {
			want = api.ErrMany
		}
		for _, l := range [][]api.Entry{keyed(n), newest(n), mixed(n)} {
			if err := merge.Check(l); err != want {
				t.Errorf("%d: error %d, not %d", n, err, want)
			}
		}
	}
}

func TestCheckFields(t *testing.T) { // P15.1: each field at its limits and one more
	for key := range 70 {
		for _, seq := range []int{math.MinInt, -1, 0, 1, 2, maxSeq - 1, maxSeq, maxSeq + 1, math.MaxInt} {
			for _, value := range []int{0, 1, 511, 512, 513} {
				for _, is := range []bool{false, true} {
					x := api.Entry{Key: text(key), Seq: seq, Dead: is, Value: text(value)}
					want := api.OK
					if !plainMayBe(x) {
						want = api.ErrBad
					}
					if err := merge.Check(row(x)); err != want {
						t.Errorf("a key of %d, %d, a value of %d, %v: error %d, not %d", key, seq, value, is, err, want)
					}
				}
			}
		}
	}
}

func TestCheckAllShortLists(t *testing.T) { // P15.1: all lists of up to four of some entries
	some := row(e("a", 2, "x"), gone("a", 2), e("a", 1, ""), e("ab", 3, ""), gone("b", 1), e("b", maxSeq, "y"), api.Entry{}, e("b", maxSeq+1, ""))
	var grow func(l []api.Entry)
	grow = func(l []api.Entry) {
		if err, want := merge.Check(l), plainCheck(l); err != want {
			t.Errorf("%v: error %d, not %d", l, err, want)
		}
		for _, x := range some {
			if len(l) < 4 {
				grow(append(slices.Clone(l), x))
			}
		}
	}
	grow(nil)
}

func TestSeen(t *testing.T) { // P15.3
	l := example()
	wantSeen(t, "example", l, 3, row(l[0], l[3]), row(l[0], l[3]))
	wantSeen(t, "example", l, 2, row(l[1], l[3]), row(l[3]))
	wantSeen(t, "example", l, 1, row(l[2]), row(l[2]))
	wantSeen(t, "example", l, 0, nil, nil)
	for name, l := range good() {
		for _, seq := range seqsNear(l) {
			wantSeen(t, name, l, seq, plainAt(l, seq), plainLive(l, seq))
		}
	}
	allRows(func(l []api.Entry) {
		for seq := range 5 {
			wantSeen(t, "all rows", l, seq, plainAt(l, seq), plainLive(l, seq))
		}
	})
}

func TestSeenOfLongRows(t *testing.T) { // P15.3, MaxEntries
	keys := keyed(65536) // one entry of each key
	wantSeen(t, "65,536 keys", keys, maxSeq, keys, keys)
	wantSeen(t, "65,536 keys", keys, 0, nil, nil)
	half := slices.DeleteFunc(slices.Clone(keys), func(x api.Entry) bool { return x.Seq > 500 })
	wantSeen(t, "65,536 keys", keys, 500, half, half)
	one := newest(65536) // the newest one stands first
	wantSeen(t, "65,536 of a key", one, maxSeq, one[:1], nil)
	wantSeen(t, "65,536 of a key", one, 65535, one[1:2], one[1:2])
	wantSeen(t, "65,536 of a key", one, 1, one[65535:], nil)
	wantSeen(t, "65,536 of a key", one, 2, one[65534:65535], one[65534:65535])
}

func TestDrop(t *testing.T) { // P15.4
	l := example()
	wantDrop(t, "example", l, 2, false, row(l[0], l[1], l[3]))
	wantDrop(t, "example", l, 2, true, row(l[0], l[3]))
	wantDrop(t, "example", l, 9, true, row(l[0], l[3]))
	for name, l := range good() {
		for _, oldest := range seqsNear(l) {
			for _, last := range []bool{false, true} {
				wantDrop(t, name, l, oldest, last, plainDrop(l, oldest, last))
			}
		}
	}
	allRows(func(l []api.Entry) {
		for oldest := range 5 {
			for _, last := range []bool{false, true} {
				wantDrop(t, "all rows", l, oldest, last, plainDrop(l, oldest, last))
			}
		}
	})
}

func TestDropOfLongRows(t *testing.T) { // P15.4, MaxEntries
	keys, one, some := keyed(65536), newest(65536), mixed(65536)
	for _, last := range []bool{false, true} {
		for _, oldest := range []int{0, 1, 500, 65536, maxSeq} {
			wantDrop(t, "65,536 keys", keys, oldest, last, keys)
		}
		wantDrop(t, "65,536 of a key", one, 0, last, one)
		wantDrop(t, "65,536, mixed", some, 0, last, some)
	}
	wantDrop(t, "65,536 of a key", one, 1, false, one)
	wantDrop(t, "65,536 of a key", one, 1, true, one[:65535])
	wantDrop(t, "65,536 of a key", one, 65535, true, one[:2])
	wantDrop(t, "65,536 of a key", one, maxSeq, false, one[:1])
	wantDrop(t, "65,536 of a key", one, maxSeq, true, nil)
}

func TestNumbers(t *testing.T) { // P15.3, P15.4, MaxSeq: at it and one more
	for name, l := range good() {
		for _, seq := range []int{math.MinInt, -maxSeq, -1, maxSeq + 1, maxSeq << 1, math.MaxInt} {
			wantNone(t, name, l, seq, api.ErrArg)
		}
	}
	l := row(e("a", maxSeq, "x"), gone("b", maxSeq))
	wantSeen(t, "at the last number", l, maxSeq, l, l[:1])
	wantSeen(t, "ahead of the last number", l, maxSeq-1, nil, nil)
	wantDrop(t, "at the last number", l, maxSeq, true, l[:1])
	wantDrop(t, "ahead of the last number", l, maxSeq-1, true, l)
}

func TestRowFirst(t *testing.T) { // P15.3, P15.4: Check's error ahead of the number's
	refused(func(name string, l []api.Entry, want api.Errno) {
		for _, seq := range []int{math.MinInt, -1, 0, 1, maxSeq, maxSeq + 1, math.MaxInt} {
			wantNone(t, name, l, seq, want)
		}
	})
}
