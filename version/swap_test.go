package version_test

import (
	"math"
	"math/rand"
	"slices"
	"strconv"
	"strings"
	"testing"

	"millhand/api"
	"millhand/version"
)

func wantSwap(t *testing.T, what string, v api.Version, w api.Work, l []api.Meta, want api.Version, wantErr api.Errno) {
	t.Helper()
	got, err := version.Swap(v, w, l)
	wantVersion(t, what+": Swap", got, err, want, wantErr)
}

// work is a compaction of all tables of a level, and of all of the next one.
func work(v api.Version, level int) api.Work {
	return api.Work{Level: level, Upper: v.Levels[level], Lower: v.Levels[level+1]}
}

func TestSwapOfTheExamples(t *testing.T) { // P16.3
	v, c := example(), table("c", "b", "f")
	one := of(nil, tables(c))
	wantSwap(t, "both by one", v, work(v, 0), tables(c), one, api.OK)
	got, err := version.Swap(v, work(v, 0), tables(c))
	if names, e := version.Names(got); err != api.OK || e != api.OK || !slices.Equal(names, []string{"c", "log"}) {
		t.Errorf("Names: %q, errors %d and %d", names, err, e)
	}
	wantSwap(t, "by two that meet", one, work(one, 1), tables(table("d", "b", "c"), table("e", "c", "f")), api.Version{}, api.ErrBad)
}

func TestSwap(t *testing.T) { // P16.3
	v := small()
	d, c, e := v.Levels[0][0], v.Levels[0][1], v.Levels[0][2]
	k, f, m := v.Levels[1][0], v.Levels[1][1], v.Levels[1][2]
	x, w := v.Levels[2][0], v.Levels[2][1]
	z, y := v.Levels[3][0], v.Levels[3][1]
	p, q, r := table("p", "\x00", "\x01"), table("q", "d", "d\xff"), table("r", "h", "z")
	swapped := func(level int, upper, lower []api.Meta) api.Version {
		return but(v, func(v *api.Version) { v.Levels[level], v.Levels[level+1] = upper, lower })
	}
	for name, one := range map[string]struct {
		w    api.Work
		l    []api.Meta
		want api.Version
	}{
		"nothing":                     {api.Work{}, nil, v},
		"nothing, level 2":            {api.Work{Level: 2}, tables(), v},
		"one out":                     {api.Work{Upper: tables(c)}, nil, swapped(0, tables(d, e), v.Levels[1])},
		"all out, in any order":       {api.Work{Upper: tables(e, d, c)}, nil, swapped(0, nil, v.Levels[1])},
		"lower ones out":              {api.Work{Lower: tables(m, k)}, nil, swapped(0, v.Levels[0], tables(f))},
		"both out":                    {work(v, 2), nil, swapped(2, nil, nil)},
		"three in, in any order":      {api.Work{}, tables(r, p, q), swapped(0, v.Levels[0], tables(p, k, f, q, m, r))},
		"three in, rising":            {api.Work{Upper: tables(d)}, tables(p, q, r), swapped(0, tables(c, e), tables(p, k, f, q, m, r))},
		"one in the place of one":     {api.Work{Lower: tables(f)}, tables(table("n", "b\x00", "d")), swapped(0, v.Levels[0], tables(k, table("n", "b\x00", "d"), m))},
		"one in the place of all":     {work(v, 0), tables(table("n", "a", "z")), swapped(0, nil, tables(table("n", "a", "z")))},
		"its own name again":          {api.Work{Lower: tables(f)}, tables(table("f", "d", "d")), swapped(0, v.Levels[0], tables(k, table("f", "d", "d"), m))},
		"itself, a level down":        {api.Work{Level: 1, Upper: tables(m), Lower: v.Levels[2]}, tables(m), swapped(1, tables(k, f), tables(m))},
		"itself, where it was":        {api.Work{Level: 1, Lower: tables(w)}, tables(w), v},
		"the names change":            {api.Work{Level: 2, Upper: tables(w), Lower: tables(y)}, tables(table("w", "c", "k"), table("y", "l", "l")), swapped(2, tables(x), tables(z, table("w", "c", "k"), table("y", "l", "l")))},
		"meets the tables that stay":  {api.Work{Level: 1}, tables(table("n", "g\x00", "gz")), swapped(1, v.Levels[1], tables(x, table("n", "g\x00", "gz"), w))},
		"by bytes, not by how long":   {api.Work{Level: 2}, tables(table("n", "b\x00", "bzzz")), swapped(2, v.Levels[2], tables(z, table("n", "b\x00", "bzzz"), y))},
		"level 2, a last one in":      {api.Work{Level: 2, Upper: tables(x)}, tables(table("n", "k\x00", "\xff")), swapped(2, tables(w), tables(z, y, table("n", "k\x00", "\xff")))},
		"more out than in, all parts": {api.Work{Upper: tables(e, c), Lower: tables(k, m)}, tables(r, q), swapped(0, tables(d), tables(f, q, r))},
	} {
		wantSwap(t, name, v, one.w, one.l, one.want, api.OK)
	}
}

func TestSwapLevels(t *testing.T) { // P16.3, Levels: at and one beyond, ahead of what follows in the chapter
	v := of()
	for _, level := range []int{math.MinInt, -4, -1, 3, 4, math.MaxInt} {
		for _, w := range []api.Work{{Level: level}, {Level: level, Upper: row(1)}, {Level: level, Lower: row(1)}} {
			wantSwap(t, "level "+strconv.Itoa(level), v, w, nil, api.Version{}, api.ErrArg)
			wantSwap(t, "level "+strconv.Itoa(level), v, w, make([]api.Meta, 33), api.Version{}, api.ErrArg)
		}
	}
	for level := range 3 {
		wantSwap(t, "level "+strconv.Itoa(level), v, api.Work{Level: level}, row(2), but(v, func(v *api.Version) { v.Levels[level+1] = row(2) }), api.OK)
	}
}

// altered are a table with one field made another one each, and such as are none.
func altered(m api.Meta) []api.Meta {
	out := []api.Meta{m, m, m, m, m, {}}
	out[0].Name += "x"
	out[1].Size++
	out[2].Many++
	out[3].Low = "\x00"
	out[4].High += "\xff"
	return out
}

func TestSwapNone(t *testing.T) { // P16.3: each table stands there, as it is there, and is told once
	v := small()
	for level := range 3 {
		upper, lower := v.Levels[level], v.Levels[level+1]
		wantNone := func(what string, u, l []api.Meta) {
			t.Helper()
			w := api.Work{Level: level, Upper: u, Lower: l}
			for _, more := range [][]api.Meta{nil, row(2), tables(table("log", "", "")), make([]api.Meta, 33)} { // ahead of ErrBad and ErrMany
				wantSwap(t, what+", level "+strconv.Itoa(level), v, w, more, api.Version{}, api.ErrNone)
			}
		}
		for _, m := range upper {
			wantNone("upper twice", tables(m, m), nil)
			wantNone("upper twice, others ahead", append(slices.Clone(upper), m), lower)
			wantNone("upper in lower", nil, tables(m))
			for _, x := range altered(m) {
				wantNone("upper altered", tables(x), nil)
				wantNone("upper altered, last", append(slices.Clone(upper), x), lower)
			}
		}
		for _, m := range lower {
			wantNone("lower twice", nil, tables(m, m))
			wantNone("lower twice, others ahead", upper, append(slices.Clone(lower), m))
			wantNone("lower in upper", tables(m), nil)
			wantNone("lower in both", tables(m), tables(m))
			for _, x := range altered(m) {
				wantNone("lower altered", nil, tables(x))
				wantNone("lower altered, last", upper, append(slices.Clone(lower), x))
			}
		}
		for other := range 4 {
			if other != level {
				wantNone("upper of another level", v.Levels[other], nil)
			}
			if other != level+1 {
				wantNone("lower of another level", nil, v.Levels[other])
			}
		}
		wantNone("far too many", make([]api.Meta, 1<<20), nil)
		wantNone("far too many that are there", slices.Repeat(upper, 1<<18), slices.Repeat(lower, 1<<18))
	}
}

func TestSwapHowMany(t *testing.T) { // P16.3, MaxMetas: what would be there, at it and one more, and ahead of ErrBad
	v := of(heap(12), row(20))
	for out := range 13 {
		for lower := range 21 {
			w := api.Work{Upper: v.Levels[0][:out], Lower: v.Levels[1][20-lower:]}
			var in []api.Meta
			for i := range out + lower {
				in = append(in, table("n"+strconv.Itoa(i), "n"+strconv.Itoa(100+i), "n"+strconv.Itoa(100+i)))
			}
			wantSwap(t, "32", v, w, in, of(v.Levels[0][out:], append(row(20-lower), in...)), api.OK)
			wantSwap(t, "33", v, w, append(in, table("z", "z", "z")), api.Version{}, api.ErrMany)
			wantSwap(t, "33, one bad", v, w, append(in, api.Meta{}), api.Version{}, api.ErrMany)
			if len(in) > 0 {
				in[0].Name = "log"
				wantSwap(t, "32, one bad", v, w, in, api.Version{}, api.ErrBad)
			}
		}
	}
	wantSwap(t, "32 into none", of(), api.Work{Level: 2}, row(32), of(nil, nil, nil, row(32)), api.OK)
	wantSwap(t, "33 into none", of(), api.Work{Level: 2}, row(33), api.Version{}, api.ErrMany)
	wantSwap(t, "32 by 32", of(heap(32)), work(of(heap(32)), 0), row(32), of(nil, row(32)), api.OK)
	wantSwap(t, "32 by 33", of(heap(32)), work(of(heap(32)), 0), row(33), api.Version{}, api.ErrMany)
	wantSwap(t, "a million", of(), api.Work{}, make([]api.Meta, 1<<20), api.Version{}, api.ErrMany)
	wantSwap(t, "a million that may be", of(), api.Work{}, slices.Repeat(row(1), 1<<20), api.Version{}, api.ErrMany)
}

func TestSwapBad(t *testing.T) { // P16.3: what follows may not be
	v := small()
	for level := range 3 {
		what := ", level " + strconv.Itoa(level)
		for name, m := range badTables() {
			wantSwap(t, name+what, v, work(v, level), tables(m), api.Version{}, api.ErrBad)
			wantSwap(t, name+", with others"+what, v, work(v, level), append(row(3), m), api.Version{}, api.ErrBad)
		}
		for name, l := range badRows() {
			if !strings.HasPrefix(name, "fall") {
				wantSwap(t, name+what, of(), api.Work{Level: level}, l, api.Version{}, api.ErrBad)
			}
		}
		for _, m := range slices.Concat(v.Levels...) { // a name that is there
			n := table(m.Name, "z", "z")
			wantSwap(t, m.Name+what, v, api.Work{Level: level}, tables(n), api.Version{}, api.ErrBad)
			wantSwap(t, m.Name+" that is out"+what, v, work(v, level), tables(n), plainOne(v, level, n), plainErr(v, level, n))
		}
		for _, l := range [][]api.Meta{tables(table("log", "z", "z")), tables(table("n", "x", "x"), table("n", "z", "z"))} {
			wantSwap(t, "names"+what, v, api.Work{Level: level}, l, api.Version{}, api.ErrBad)
			wantSwap(t, "names"+what, v, work(v, level), l, api.Version{}, api.ErrBad)
		}
		for _, m := range v.Levels[level+1] { // keys of a table that stays
			for _, n := range []api.Meta{table("n", m.Low, m.Low), table("n", m.High, m.High), table("n", "\x00", "z"), table("n", m.High, "z"), table("n", "\x00", m.Low)} {
				wantSwap(t, "meets one that stays"+what, v, api.Work{Level: level, Upper: v.Levels[level]}, tables(n), api.Version{}, api.ErrBad)
			}
		}
	}
}

// plainOne and plainErr are what Swap of a level's work by one table is to answer.
func plainOne(v api.Version, level int, m api.Meta) api.Version {
	v, _ = plainSwap(v, work(v, level), tables(m))
	return v
}

func plainErr(v api.Version, level int, m api.Meta) api.Errno {
	_, err := plainSwap(v, work(v, level), tables(m))
	return err
}

// anyTable is a table of few names and keys, which may be, mostly.
func anyTable(r *rand.Rand) api.Meta {
	low := r.Intn(10)
	return table(strconv.Itoa(r.Intn(40)), string(rune('a'+low)), string(rune('a'+min(9, low+r.Intn(4)-r.Intn(20)/19))))
}

// anyVersion is one that may be, of any tables.
func anyVersion(r *rand.Rand) api.Version {
	v := of()
	for range r.Intn(16) {
		x, i := deepCopy(v), r.Intn(4)
		x.Levels[i] = append(x.Levels[i], anyTable(r))
		if i > 0 {
			slices.SortFunc(x.Levels[i], func(a, b api.Meta) int { return strings.Compare(a.Low, b.Low) })
		}
		if plainCheck(x) == api.OK {
			v = x
		}
	}
	return v
}

// some is some of a list's elements, in any order, seldom one of them twice.
func some[T any](r *rand.Rand, l []T) (out []T) {
	for _, i := range r.Perm(len(l)) {
		if r.Intn(3) > 0 {
			out = append(out, l[i])
		}
		if r.Intn(40) == 0 {
			out = append(out, l[i])
		}
	}
	return out
}

// anyWork is one of a version's levels, seldom of tables that are not there, and tables to be swapped in.
func anyWork(r *rand.Rand, v api.Version) (api.Work, []api.Meta) {
	i := r.Intn(3)
	w := api.Work{Level: i, Upper: some(r, v.Levels[i]), Lower: some(r, v.Levels[i+1])}
	if r.Intn(20) == 0 {
		w.Lower = append(w.Lower, anyTable(r))
	}
	if r.Intn(20) == 0 {
		w.Upper = append(tables(anyTable(r)), w.Upper...)
	}
	if r.Intn(40) == 0 {
		w.Level = r.Intn(6) - 1
	}
	var in []api.Meta
	for range r.Intn(4) {
		in = append(in, anyTable(r))
	}
	if r.Intn(10) == 0 {
		in = append(in, row(20+r.Intn(16))...)
	}
	return w, in
}

func TestSwapOfAny(t *testing.T) { // P16.3: any versions, works and tables are held against the chapter's words
	found := map[api.Errno]int{}
	for seed := range int64(20000) {
		r := rand.New(rand.NewSource(seed))
		v := anyVersion(r)
		w, in := anyWork(r, v)
		want, err := plainSwap(v, w, in)
		found[err]++
		wantSwap(t, "seed "+strconv.Itoa(int(seed)), v, w, in, want, err)
		m := anyTable(r)
		want, err = plainAdd(v, m)
		got, e := version.Add(v, m)
		wantVersion(t, "seed "+strconv.Itoa(int(seed))+": Add", got, e, want, err)
	}
	for _, err := range []api.Errno{api.OK, api.ErrArg, api.ErrNone, api.ErrMany, api.ErrBad} {
		if found[err] < 100 {
			t.Errorf("error %d was found %d times only", err, found[err])
		}
	}
}
