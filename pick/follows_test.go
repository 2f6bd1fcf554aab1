package pick_test

import (
	"fmt"
	"math/rand"
	"slices"
	"testing"

	"millhand/api"
	"millhand/pick"
	"millhand/version"
)

// wantPlace wants what is picked to stand in a version, and to be all that meets it.
func wantPlace(t *testing.T, what string, v api.Version, w api.Work) {
	t.Helper()
	for _, m := range w.Upper {
		if !slices.Contains(v.Levels[w.Level], m) {
			t.Errorf("%s: %s is not in level %d", what, m.Name, w.Level)
		}
	}
	for _, m := range w.Lower {
		if !slices.Contains(v.Levels[w.Level+1], m) {
			t.Errorf("%s: %s is not in level %d", what, m.Name, w.Level+1)
		}
	}
	for _, m := range v.Levels[w.Level+1] {
		for _, u := range w.Upper {
			if plainMeets(m, u.Low, u.High) && !slices.Contains(w.Lower, m) {
				t.Errorf("%s: %s of the next level meets %s", what, m.Name, u.Name)
			}
		}
	}
}

// within is some tables with keys within a work's, rising, apart, with names of their own.
func within(r *rand.Rand, w api.Work, number int) (l []api.Meta) {
	all := slices.Concat(w.Upper, w.Lower)
	low, high := all[0].Low, all[0].High
	for _, m := range all {
		low, high = min(low, m.Low), max(high, m.High)
	}
	keys := []string{low, high}
	for range r.Intn(8) {
		if k := anyKey(r); low < k && k < high {
			keys = append(keys, k)
		}
	}
	slices.Sort(keys)
	keys = slices.Compact(keys)
	if r.Intn(3) == 0 {
		return tables(table(fmt.Sprint("n", number), low, high))
	}
	for len(keys) > 1 {
		many := 1 + r.Intn(2)
		l, keys = append(l, table(fmt.Sprint("n", number+len(l)), keys[0], keys[many-1])), keys[many:]
	}
	return l
}

func TestSwapOfWhatIsPicked(t *testing.T) { // P18.4
	done := 0
	for seed := range int64(20000) {
		r := rand.New(rand.NewSource(seed))
		v := anyVersion(r)
		w, err := pick.Pick(v)
		if err != api.OK {
			continue
		}
		what := fmt.Sprint("seed ", seed)
		wantPlace(t, what, v, w)
		in := within(r, w, 0)
		was := len(slices.Concat(v.Levels...)) - len(w.Upper) - len(w.Lower)
		x, err := version.Swap(v, w, in)
		if was+len(in) > 32 {
			if err != api.ErrMany {
				t.Errorf("%s: too many: error %d", what, err)
			}
			continue
		}
		if err != api.OK || version.Check(x) != api.OK {
			t.Errorf("%s: Swap of %s: error %d", what, short(w), err)
		}
		done++
	}
	if done < 1000 {
		t.Errorf("%d swaps only", done)
	}
}

func TestSwapByNone(t *testing.T) { // P18.4: all that is picked may be gone, or stand one level lower as it was, if it is apart
	for _, many := range [][4]int{{4}, {4, 8}, {3, 9, 16, 4}, {0, 8, 17}, {0, 32}, {32}} {
		v := rows(many)
		w, err := pick.Pick(v)
		if err != api.OK {
			t.Fatalf("%v: error %d", many, err)
		}
		for _, in := range [][]api.Meta{nil, w.Upper} {
			x, err := version.Swap(v, w, in)
			if err != api.OK {
				t.Errorf("%v: Swap by %d: error %d", many, len(in), err)
			}
			before, _ := pick.Score(v, w.Level)
			after, _ := pick.Score(x, w.Level)
			if after >= before {
				t.Errorf("%v: level %d was too full by %d, and is by %d", many, w.Level, before, after)
			}
		}
	}
}

func TestTillNoneIsTooFull(t *testing.T) { // P18.4: version by version
	for seed := range int64(300) {
		r := rand.New(rand.NewSource(seed))
		v := anyVersion(r)
		for number := 0; ; number += 100 {
			w, err := pick.Pick(v)
			if err == api.ErrNone {
				break
			}
			wantPlace(t, fmt.Sprint("seed ", seed), v, w)
			in := within(r, w, number)
			for len(in) > len(w.Upper)+len(w.Lower) {
				in = in[1:]
			}
			if v, err = version.Swap(v, w, in); err != api.OK || number > 100000 {
				t.Fatalf("seed %d: swap %d: error %d", seed, number, err)
			}
		}
		wantNone(t, fmt.Sprint("seed ", seed), v)
	}
}
