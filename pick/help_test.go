package pick_test

import (
	"fmt"
	"math"
	"slices"
	"strings"
	"testing"

	"millhand/api"
)

const maxSeq = 1 << 40

func table(name, low, high string) api.Meta {
	return api.Meta{Name: name, Size: 9, Many: 2, Low: low, High: high}
}
func tables(l ...api.Meta) []api.Meta { return l }
func text(many int) string            { return strings.Repeat("t", many) }

// of is a version of the first ones of its levels.
func of(levels ...[]api.Meta) api.Version {
	return api.Version{Levels: append(levels, make([][]api.Meta, 4-len(levels))...), Next: 7, Seq: 5, Log: "log"}
}

// but is a copy of a version, changed.
func but(v api.Version, change func(v *api.Version)) api.Version {
	v.Levels = slices.Clone(v.Levels)
	for i, l := range v.Levels {
		v.Levels[i] = slices.Clone(l)
	}
	change(&v)
	return v
}

// row is so many tables of a level, apart, rising by their keys, which are the same in all levels.
func row(level, many int) (l []api.Meta) {
	for i := range many {
		l = append(l, table(fmt.Sprintf("r%d.%d", level, i), fmt.Sprintf("%02d", i), fmt.Sprintf("%02dx", i)))
	}
	return l
}

// rows is a version of so many tables in each level.
func rows(many [4]int) api.Version {
	return of(row(0, many[0]), row(1, many[1]), row(2, many[2]), row(3, many[3]))
}

// heap is so many tables of level 0, all of the same keys.
func heap(many int) (l []api.Meta) {
	for i := range many {
		l = append(l, table(fmt.Sprintf("h%d", i), "b", "d"))
	}
	return l
}

// badTables are such as may not be.
func badTables() map[string]api.Meta {
	out := map[string]api.Meta{"zero": {}}
	add := func(name string, change func(m *api.Meta)) {
		m := table("bad", "x", "y")
		change(&m)
		out[name] = m
	}
	add("no name", func(m *api.Meta) { m.Name = "" })
	add("a name of 17", func(m *api.Meta) { m.Name = text(17) })
	add("the log's name", func(m *api.Meta) { m.Name = "log" })
	for _, n := range []int{0, -1, math.MinInt, 16385, math.MaxInt} {
		add(fmt.Sprintf("a size of %d", n), func(m *api.Meta) { m.Size = n })
	}
	for _, n := range []int{0, -1, math.MinInt, 65537, math.MaxInt} {
		add(fmt.Sprintf("entries: %d", n), func(m *api.Meta) { m.Many = n })
	}
	add("no low key", func(m *api.Meta) { m.Low = "" })
	add("no high key", func(m *api.Meta) { m.High = "" })
	add("a low key of 65", func(m *api.Meta) { m.Low = "x" + strings.Repeat("\x00", 64) })
	add("a high key of 65", func(m *api.Meta) { m.High = "y" + text(64) })
	add("low above high", func(m *api.Meta) { m.Low, m.High = "y", "x" })
	return out
}

// bad are versions that have no more than 32 tables, and may not be: some too full, some not.
func bad() map[string]api.Version {
	full := rows([4]int{5, 10, 4, 2})
	out := map[string]api.Version{
		"zero":                    {},
		"three levels":            but(full, func(v *api.Version) { v.Levels = v.Levels[:3] }),
		"five levels":             but(full, func(v *api.Version) { v.Levels = append(v.Levels, nil) }),
		"four, and no log":        but(of(heap(4)), func(v *api.Version) { v.Log = "" }),
		"a log of 17":             but(full, func(v *api.Version) { v.Log = text(17) }),
		"the log is a table":      but(full, func(v *api.Version) { v.Log = v.Levels[2][3].Name }),
		"a name in two levels":    but(full, func(v *api.Version) { v.Levels[3][0].Name = v.Levels[0][4].Name }),
		"a name twice in level 0": of(append(heap(4), table("h0", "x", "x"))),
	}
	for _, n := range []int{0, -1, math.MinInt, maxSeq + 1, math.MaxInt} {
		out[fmt.Sprintf("Next %d", n)] = but(full, func(v *api.Version) { v.Next = n })
	}
	for _, n := range []int{-1, math.MinInt, maxSeq + 1, math.MaxInt} {
		out[fmt.Sprintf("Seq %d", n)] = but(full, func(v *api.Version) { v.Seq = n })
	}
	for level := range 4 {
		for name, m := range badTables() {
			out[fmt.Sprintf("%s, alone in level %d", name, level)] = but(of(), func(v *api.Version) { v.Levels[level] = tables(m) })
			out[fmt.Sprintf("%s, in level %d", name, level)] = but(full, func(v *api.Version) { v.Levels[level] = append(v.Levels[level], m) })
		}
		if level > 0 {
			out[fmt.Sprintf("tables that meet in level %d", level)] = but(full, func(v *api.Version) { v.Levels[level][0].High = v.Levels[level][1].Low })
			out[fmt.Sprintf("tables that fall in level %d", level)] = but(full, func(v *api.Version) { slices.Reverse(v.Levels[level]) })
		}
	}
	return out
}

// tooMany are versions of more than 32 tables.
func tooMany() map[string]api.Version {
	return map[string]api.Version{
		"33 in level 0":       of(heap(33)),
		"33 in level 3":       of(nil, nil, nil, row(3, 33)),
		"33 in all":           rows([4]int{4, 9, 17, 3}),
		"33 that may not be":  of(make([]api.Meta, 33)),
		"33 in a fifth level": {Levels: [][]api.Meta{nil, nil, nil, nil, row(3, 33)}},
		"100,000":             of(nil, make([]api.Meta, 100000)),
	}
}

// refused visits all versions that may not be, with their errors.
func refused(visit func(name string, v api.Version, want api.Errno)) {
	for name, v := range bad() {
		visit(name, v, api.ErrBad)
	}
	for name, v := range tooMany() {
		visit(name, v, api.ErrMany)
	}
}

// names is the names of tables, in their order.
func names(l []api.Meta) (out []string) {
	for _, m := range l {
		out = append(out, m.Name)
	}
	return out
}

// short is a work's text.
func short(w api.Work) string { return fmt.Sprint(w.Level, names(w.Upper), names(w.Lower)) }

func sameWork(a, b api.Work) bool {
	return a.Level == b.Level && slices.Equal(a.Upper, b.Upper) && slices.Equal(a.Lower, b.Lower)
}

// wantWork wants a work without an error; with one, none at all.
func wantWork(t *testing.T, what string, got api.Work, err api.Errno, want api.Work, wantErr api.Errno) {
	t.Helper()
	if err != wantErr {
		t.Errorf("%s: error %d, not %d", what, err, wantErr)
	}
	if wantErr != api.OK {
		want = api.Work{}
	}
	if !sameWork(got, want) {
		t.Errorf("%s: %s, not %s", what, short(got), short(want))
	}
}
