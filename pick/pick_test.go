package pick_test

import (
	"fmt"
	"math"
	"math/rand"
	"strings"
	"testing"

	"millhand/api"
	"millhand/pick"
	"millhand/version"
)

// wantAll wants of all calls what the chapter's words ask.
func wantAll(t *testing.T, what string, v api.Version) {
	t.Helper()
	if err := version.Check(v); err != api.OK {
		t.Fatalf("%s: the test's own version may not be: error %d", what, err)
	}
	for level := range 4 {
		if n, err := pick.Score(v, level); n != plainScore(v, level) || err != api.OK {
			t.Errorf("%s: Score %d: %d, error %d, not %d", what, level, n, err, plainScore(v, level))
		}
	}
	want, wantErr := plainPick(v)
	if is, err := pick.Need(v); is != (wantErr == api.OK) || err != api.OK {
		t.Errorf("%s: Need: %v, error %d", what, is, err)
	}
	w, err := pick.Pick(v)
	wantWork(t, what, w, err, want, wantErr)
}

// wantNone wants a version that is not too full anywhere.
func wantNone(t *testing.T, what string, v api.Version) {
	t.Helper()
	for level := range 4 {
		if n, err := pick.Score(v, level); n != 0 || err != api.OK {
			t.Errorf("%s: Score %d: %d, error %d", what, level, n, err)
		}
	}
	if is, err := pick.Need(v); is || err != api.OK {
		t.Errorf("%s: Need: %v, error %d", what, is, err)
	}
	w, err := pick.Pick(v)
	wantWork(t, what, w, err, api.Work{}, api.ErrNone)
}

func exampleOfFour() (v api.Version, upper, lower []api.Meta) {
	upper = tables(table("p", "b", "c"), table("q", "d", "e"), table("r", "a", "a"), table("s", "c", "d"))
	lower = tables(table("x", "a", "b"))
	return of(upper, append(lower, table("y", "f", "g"))), upper, lower
}

func TestExamples(t *testing.T) { // P18.1, P18.2: the chapter's examples
	v, upper, lower := exampleOfFour()
	wantNone(t, "three tables in level 0", but(v, func(v *api.Version) { v.Levels[0] = v.Levels[0][:3] }))
	if is, err := pick.Need(v); !is || err != api.OK {
		t.Errorf("a fourth one: Need: %v, error %d", is, err)
	}
	w, err := pick.Pick(v)
	wantWork(t, "a fourth one", w, err, api.Work{Level: 0, Upper: upper, Lower: lower}, api.OK)

	v = rows([4]int{5, 11, 2, 0})
	w, err = pick.Pick(v)
	wantWork(t, "five and eleven", w, err, api.Work{Level: 1, Upper: v.Levels[1][:1], Lower: v.Levels[2][:1]}, api.OK)
	if n, err := pick.Score(v, 1); n != 3 || err != api.OK {
		t.Errorf("eleven in level 1: Score %d, error %d", n, err)
	}
}

func TestScoreAtWhatLevelsHold(t *testing.T) { // P18.1
	for level, held := range []int{3, 8, 16, 32} {
		for many := range 33 {
			v := of()
			v.Levels[level] = row(level, many)
			for i := range 4 {
				want := 0
				if i == level {
					want = max(0, many-held)
				}
				if n, err := pick.Score(v, i); n != want || err != api.OK {
					t.Errorf("%d tables in level %d: Score %d: %d, error %d, not %d", many, level, i, n, err, want)
				}
			}
			if is, err := pick.Need(v); is != (many > held) || err != api.OK {
				t.Errorf("%d tables in level %d: Need: %v, error %d", many, level, is, err)
			}
		}
	}
}

func TestScoreOfNoLevel(t *testing.T) { // P18.1
	for _, v := range []api.Version{of(), of(heap(32)), rows([4]int{5, 10, 4, 2})} {
		for _, level := range []int{-1, -2, math.MinInt, 4, 5, 1 << 32, math.MaxInt} {
			if n, err := pick.Score(v, level); n != 0 || err != api.ErrArg {
				t.Errorf("Score %d: %d, error %d", level, n, err)
			}
		}
	}
}

func TestVersionsThatMayNotBe(t *testing.T) { // P18.1, P18.2: ahead of all else
	refused(func(name string, v api.Version, want api.Errno) {
		for _, level := range []int{-1, 0, 1, 2, 3, 4, math.MinInt, math.MaxInt} {
			if n, err := pick.Score(v, level); n != 0 || err != want {
				t.Errorf("%s: Score %d: %d, error %d, not %d", name, level, n, err, want)
			}
		}
		if is, err := pick.Need(v); is || err != want {
			t.Errorf("%s: Need: %v, error %d, not %d", name, is, err, want)
		}
		w, err := pick.Pick(v)
		wantWork(t, name, w, err, api.Work{}, want)
	})
}

func TestNoneTooFull(t *testing.T) { // P18.2
	for _, many := range [][4]int{{}, {3}, {3, 8, 16, 5}, {0, 8}, {0, 0, 16}, {0, 0, 0, 32}, {3, 8, 0, 21}, {2, 7, 15, 8}} {
		wantNone(t, fmt.Sprint(many), rows(many))
	}
	wantNone(t, "lists that are not nil", of(tables(), tables(), tables(), tables()))
	wantNone(t, "tables that meet", of(heap(3), row(1, 8)))
}

func TestWhichLevel(t *testing.T) { // P18.2: by the most, of several the least one
	for many, want := range map[[4]int]int{
		{4}: 0, {32}: 0, {0, 9}: 1, {0, 32}: 1, {0, 0, 17}: 2, {0, 0, 32}: 2,
		{4, 9}: 0, {4, 9, 17}: 0, {4, 10}: 1, {5, 9}: 0, {5, 10, 17}: 0, {5, 11}: 1, {5, 9, 18}: 0,
		{4, 0, 17}: 0, {4, 0, 18}: 2, {0, 9, 17}: 1, {0, 9, 18}: 2, {0, 10, 17}: 1, {3, 9, 18}: 2,
		{4, 9, 18}: 2, {4, 10, 18}: 1, {5, 0, 19}: 2, {6, 8, 18}: 0, {6, 9, 17}: 0, {5, 8, 18}: 0, {4, 10, 17, 1}: 1,
		{4, 0, 0, 28}: 0, {3, 9, 0, 20}: 1, {0, 0, 17, 15}: 2, {8, 13}: 0, {8, 14}: 1, {9, 13}: 0, {7, 12, 12, 1}: 0,
	} {
		v := rows(many)
		w, err := pick.Pick(v)
		upper := v.Levels[want]
		if want > 0 {
			upper = upper[:1]
		}
		lower := v.Levels[want+1][:min(len(upper), many[want+1])]
		wantWork(t, fmt.Sprint(many), w, err, api.Work{Level: want, Upper: upper, Lower: lower}, api.OK)
	}
}

func TestAllSizes(t *testing.T) { // P18.1, P18.2: all versions of up to so many tables a level
	for a := range 8 {
		for b := range 13 {
			for c := range 21 {
				for d := range 3 {
					if a+b+c+d <= 32 {
						many := [4]int{a, b, c, d}
						wantAll(t, fmt.Sprint(many), rows(many))
					}
				}
			}
		}
	}
}

// wantLower wants tables of names of the next level, if the upper one goes from b to d.
func wantLower(t *testing.T, what string, want string, lower ...api.Meta) {
	t.Helper()
	one := table("one", "b", "d")
	other := func(i int) api.Meta { return table(fmt.Sprint(i), fmt.Sprint("x", 10+i), fmt.Sprint("x", 10+i)) }
	versions := []api.Version{of(append(heap(3), one), lower), of(nil, tables(one), lower), of(nil, nil, tables(one), lower)}
	for i := range 16 {
		if i < 8 {
			versions[1].Levels[1] = append(versions[1].Levels[1], other(i))
		}
		versions[2].Levels[2] = append(versions[2].Levels[2], other(i))
	}
	for level, v := range versions {
		w, err := pick.Pick(v)
		if got := strings.Join(names(w.Lower), " "); got != want || w.Level != level || err != api.OK {
			t.Errorf("%s, level %d: Lower %q, level %d, error %d, not %q", what, level, got, w.Level, err, want)
		}
	}
}

func TestWhichLowerTables(t *testing.T) { // P18.2: of b to d
	wantLower(t, "none there", "")
	wantLower(t, "all below", "", table("u", "a", "a"), table("v", "aa", "a\xff\xff"))
	wantLower(t, "all above", "", table("u", "d\x00", "d\x00"), table("v", "da", "z"))
	wantLower(t, "around, not met", "", table("u", "a", "a\xff"), table("v", "d\x00", "e"))
	wantLower(t, "the least key alone", "u", table("u", "a", "b"), table("v", "d\x00", "e"))
	wantLower(t, "the greatest key alone", "v", table("u", "a", "a\xff"), table("v", "d", "e"))
	wantLower(t, "both keys", "u v", table("t", "\x00", "\x01"), table("u", "a", "b"), table("v", "d", "e"), table("w", "f", "g"))
	wantLower(t, "within", "u", table("t", "a", "a"), table("u", "c", "c"), table("v", "e", "e"))
	wantLower(t, "around", "u", table("t", "\x00", "\x00"), table("u", "a", "e"), table("v", "ee", "e\xff"))
	wantLower(t, "the same keys", "u", table("u", "b", "d"))
	wantLower(t, "several within", "v u t", table("x", "a", "a"), table("v", "b", "b"), table("u", "b\x00", "c"), table("t", "cc", "d"), table("w", "e", "e"))
}

func TestKeysOfLevel0(t *testing.T) { // P18.2: from the least Low to the greatest High, wherever they stand, and all between
	lower := tables(table("1", "a", "b"), table("2", "c", "c"), table("3", "e", "e"), table("4", "g", "h"), table("5", "i", "i"), table("6", "k", "k"))
	four := tables(table("w", "b", "b"), table("x", "d", "d"), table("y", "f", "f"), table("z", "i", "i"))
	for range 4 {
		for range 4 {
			v := of(four, lower)
			w, err := pick.Pick(v)
			wantWork(t, fmt.Sprint(names(four)), w, err, api.Work{Upper: four, Lower: lower[:5]}, api.OK)
			four = append(four[1:len(four):len(four)], four[0])
		}
		four = tables(four[1], four[0], four[2], four[3])
	}
	for i, wide := range []api.Meta{table("wide", "b", "i"), table("wide", "b", "\xff"), table("wide", "\x00", "i"), table("wide", "b\x00", "i")} {
		many := []int{0, 5, 0, 6, 0, 5, 1, 5}[2*i : 2*i+2]
		for at := range 4 {
			l := tables(table("x", "d", "d"), table("y", "e", "e"), table("z", "f", "f"))
			l = append(l[:at:at], append(tables(wide), l[at:]...)...)
			w, err := pick.Pick(of(l, lower))
			wantWork(t, fmt.Sprintf("%q to %q at %d", wide.Low, wide.High, at), w, err, api.Work{Upper: l, Lower: lower[many[0]:many[1]]}, api.OK)
		}
	}
}

func TestOtherLevelsAreNotAsked(t *testing.T) { // P18.2: tables of levels that are not the next one, that meet
	all := table("all", "\x00", "\xff")
	v := of(append(heap(3), table("one", "c", "c")), nil, tables(all))
	w, err := pick.Pick(v)
	wantWork(t, "level 2", w, err, api.Work{Upper: v.Levels[0]}, api.OK)
	v = of(nil, row(1, 9), nil, tables(all))
	w, err = pick.Pick(v)
	wantWork(t, "level 3", w, err, api.Work{Level: 1, Upper: v.Levels[1][:1]}, api.OK)
	v = of(heap(3), row(1, 8), row(2, 17))
	w, err = pick.Pick(v)
	wantWork(t, "levels 0 and 1", w, err, api.Work{Level: 2, Upper: v.Levels[2][:1]}, api.OK)
}

func TestLongestKeys(t *testing.T) { // P18.2
	low, high := "a"+text(63), "b"+text(63)
	v := of(tables(table("1", low, low), table("2", low, high), table("3", high, high), table("4", low, low)), tables(table("x", "a", low), table("y", low[:63]+"u", "b"), table("z", high, "c")))
	w, err := pick.Pick(v)
	wantWork(t, "64 bytes", w, err, api.Work{Upper: v.Levels[0], Lower: v.Levels[1]}, api.OK)
}

func TestAnyVersions(t *testing.T) { // P18.1, P18.2: against the chapter's words
	picked := [3]int{}
	for seed := range int64(20000) {
		v := anyVersion(rand.New(rand.NewSource(seed)))
		wantAll(t, fmt.Sprint("seed ", seed), v)
		if w, err := pick.Pick(v); err == api.OK {
			picked[w.Level]++
		}
		if t.Failed() {
			return
		}
	}
	for level, n := range picked {
		if n < 100 {
			t.Errorf("level %d is picked %d times only", level, n)
		}
	}
}
