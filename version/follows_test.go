package version_test

import (
	"math/rand"
	"slices"
	"testing"

	"millhand/api"
	"millhand/version"
)

// keysOnce wants each key in one table of each level from 1 on, at most.
func keysOnce(t *testing.T, v api.Version) {
	t.Helper()
	for level := 1; level < 4; level++ {
		for _, m := range slices.Concat(v.Levels...) {
			for _, key := range []string{m.Low, m.High, m.Low + "\x00", "\x00", "\xff"} {
				l, err := version.Overlap(v, level, key, key)
				if err != api.OK || len(l) > 1 {
					t.Errorf("%s: Overlap %d, %q: %v, error %d", short(v), level, key, l, err)
				}
			}
		}
	}
}

// keeps wants all of a version that was not swapped to be there still, and what was to be there no more.
func keeps(t *testing.T, was, is api.Version, w api.Work, in []api.Meta) {
	t.Helper()
	if is.Next != was.Next || is.Seq != was.Seq || is.Log != was.Log {
		t.Errorf("%s, and %s behind it", short(was), short(is))
	}
	for i, l := range was.Levels {
		var gone, more []api.Meta
		switch i {
		case w.Level:
			gone = w.Upper
		case w.Level + 1:
			gone, more = w.Lower, in
		}
		if len(is.Levels[i]) != len(l)-len(gone)+len(more) {
			t.Errorf("%s, and %s behind it: level %d", short(was), short(is), i)
		}
		for _, m := range append(plainLeft(l, gone), more...) {
			if count(is.Levels[i], m) != 1 {
				t.Errorf("%s is not there in %s", m.Name, short(is))
			}
		}
		for _, m := range gone {
			if count(is.Levels[i], m) != count(more, m) {
				t.Errorf("%s is there still in %s", m.Name, short(is))
			}
		}
	}
}

func TestRowsOfCalls(t *testing.T) { // P16.6
	for seed := range int64(60) {
		r := rand.New(rand.NewSource(seed))
		v, err := version.New("log")
		if err != api.OK {
			t.Fatalf("New: error %d", err)
		}
		for range 60 {
			m := anyTable(r)
			if x, err := version.Add(v, m); err == api.OK {
				keeps(t, but(v, func(v *api.Version) { v.Levels[0] = append(v.Levels[0], m) }), x, api.Work{}, nil)
				v = x
			}
			w, in := anyWork(r, v)
			if x, err := version.Swap(v, w, in); err == api.OK {
				keeps(t, v, x, w, in)
				v = x
			}
			if err := version.Check(v); err != api.OK {
				t.Fatalf("seed %d: %s: Check: error %d", seed, short(v), err)
			}
			keysOnce(t, v)
		}
	}
}

func TestSwapOfWhatOverlaps(t *testing.T) { // P16.6: what meets an upper table is swapped with it, so that tables of these keys have their places
	for seed := range int64(2000) {
		r := rand.New(rand.NewSource(seed))
		v := anyVersion(r)
		level := r.Intn(3)
		if len(v.Levels[level]) == 0 {
			continue
		}
		m := v.Levels[level][r.Intn(len(v.Levels[level]))]
		lower, err := version.Overlap(v, level+1, m.Low, m.High)
		if err != api.OK {
			t.Fatalf("seed %d: Overlap: error %d", seed, err)
		}
		low, high := m.Low, m.High
		for _, x := range lower {
			low, high = min(low, x.Low), max(high, x.High)
		}
		w := api.Work{Level: level, Upper: tables(m), Lower: lower}
		in := tables(table("new", low, high))
		x, err := version.Swap(v, w, in)
		if err != api.OK {
			t.Fatalf("seed %d: Swap: error %d", seed, err)
		}
		keeps(t, v, x, w, in)
		keysOnce(t, x)
	}
}
