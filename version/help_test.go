package version_test

import (
	"math"
	"slices"
	"strconv"
	"strings"
	"testing"

	"millhand/api"
	"millhand/version"
)

const maxSeq = 1 << 40

func table(name, low, high string) api.Meta {
	return api.Meta{Name: name, Size: 9, Many: 2, Low: low, High: high}
}
func tables(l ...api.Meta) []api.Meta { return l }
func text(many int) string            { return strings.Repeat("t", many) }

// of is a version of the first ones of its levels.
func of(levels ...[]api.Meta) api.Version {
	return api.Version{Levels: append(levels, make([][]api.Meta, 4-len(levels))...), Next: 7, Seq: 5, Log: "log"}
}

// deepCopy is a version in new memory.
func deepCopy(v api.Version) api.Version {
	v.Levels = slices.Clone(v.Levels)
	for i, l := range v.Levels {
		v.Levels[i] = slices.Clone(l)
	}
	return v
}

// but is a copy of a version, changed.
func but(v api.Version, change func(v *api.Version)) api.Version {
	v = deepCopy(v)
	change(&v)
	return v
}

// row is so many tables, apart, rising by their keys and their names.
func row(many int) (l []api.Meta) {
	for i := range many {
		n := strconv.Itoa(1000 + i)
		l = append(l, table("r"+n, n, n+"x"))
	}
	return l
}

// heap is so many tables of the same keys.
func heap(many int) (l []api.Meta) {
	for i := range many {
		l = append(l, table("h"+strconv.Itoa(i), "b", "d"))
	}
	return l
}

func example() api.Version { return of(tables(table("a", "b", "d"), table("b", "c", "f"))) }

// small is a version with tables in all levels.
func small() api.Version {
	return of(
		tables(table("d", "b", "d"), table("c", "c", "f"), table("e", "a", "a")),
		tables(table("k", "a", "b"), table("f", "c", "c"), table("m", "e", "g")),
		tables(table("x", "a", "g"), table("w", "h", "h")),
		tables(table("z", "b", "b"), table("y", "c", "k")))
}

// good are versions that may be.
func good() map[string]api.Version {
	limits := tables(api.Meta{Name: "1", Size: 1, Many: 1, Low: "a", High: "a"},
		api.Meta{Name: "2", Size: 16384, Many: 65536, Low: "b", High: text(64)},
		api.Meta{Name: text(16), Size: 1, Many: 65536, Low: "u" + text(63), High: "v" + text(63)})
	bytes := tables(table("\x00", "\x00", "\x00"), table("\xff", "\x00\x00", "\x7f"), table("é", "\x80", "\xff"), table("0", "\xff\x00", "\xff\xff"))
	return map[string]api.Version{
		"none":                    of(),
		"none, not nil":           of(tables(), tables(), tables(), tables()),
		"the example":             example(),
		"in all levels":           small(),
		"at the limits, level 0":  of(limits),
		"at the limits, level 3":  of(nil, nil, nil, limits),
		"all bytes":               of(nil, bytes),
		"level 0 meets and falls": of(tables(table("a", "x", "z"), table("c", "a", "y"), table("b", "a", "y"))),
		"just above":              of(nil, tables(table("a", "b", "d"), table("b", "d\x00", "d\x00"), table("c", "d\x01", "dd"))),
		"levels meet":             of(heap(3), heap(4)[3:], tables(table("x", "b", "d")), tables(table("y", "b", "d"))),
		"32 in level 0":           of(heap(32)),
		"32 in level 1":           of(nil, row(32)),
		"32 in level 3":           of(nil, nil, nil, row(32)),
		"32 in all":               of(heap(5), row(10), tables(), append(row(26)[10:], table("z", "x", "z"))),
		"31":                      of(nil, nil, row(31)),
		"the least numbers":       but(small(), func(v *api.Version) { v.Next, v.Seq = 1, 0 }),
		"the greatest numbers":    but(small(), func(v *api.Version) { v.Next, v.Seq = maxSeq, maxSeq }),
		"a log of one byte":       but(small(), func(v *api.Version) { v.Log = "\x00" }),
		"a log of 16 bytes":       but(small(), func(v *api.Version) { v.Log = text(16) }),
		"a log that begins one":   but(of(heap(4)), func(v *api.Version) { v.Log = "h" }),
		"a log that one begins":   but(of(heap(4)), func(v *api.Version) { v.Log = "h1x" }),
		"a log as a key":          but(small(), func(v *api.Version) { v.Log = "a" }),
	}
}

// badTables are such as may not be.
func badTables() map[string]api.Meta {
	out := map[string]api.Meta{"zero": {}}
	add := func(name string, change func(m *api.Meta)) {
		m := table("bad", "n", "o")
		change(&m)
		out[name] = m
	}
	for _, s := range []string{"", text(17), strings.Repeat("é", 9), text(1 << 16)} {
		add("a name of "+strconv.Itoa(len(s)), func(m *api.Meta) { m.Name = s })
	}
	for _, n := range []int{0, -1, math.MinInt, 16385, 65537, math.MaxInt} {
		add("a size of "+strconv.Itoa(n), func(m *api.Meta) { m.Size = n })
	}
	for _, n := range []int{0, -1, math.MinInt, 65537, 1 << 32, math.MaxInt} {
		add("entries: "+strconv.Itoa(n), func(m *api.Meta) { m.Many = n })
	}
	for _, n := range []int{65, 66, 1 << 16} {
		add("a low key of "+strconv.Itoa(n), func(m *api.Meta) { m.Low = "n" + strings.Repeat("\x00", n-1) })
		add("a high key of "+strconv.Itoa(n), func(m *api.Meta) { m.High = "n" + text(n-1) })
	}
	add("no low key", func(m *api.Meta) { m.Low = "" })
	add("no high key", func(m *api.Meta) { m.High = "" })
	add("no keys", func(m *api.Meta) { m.Low, m.High = "", "" })
	add("low above high", func(m *api.Meta) { m.Low, m.High = "o", "n" })
	add("low longer than high", func(m *api.Meta) { m.Low, m.High = "o\x00", "o" })
	add("low above high by bytes", func(m *api.Meta) { m.Low, m.High = "\x80", "\x7f" })
	return out
}

// badRows are tables that may be, but not in a level from 1 on.
func badRows() map[string][]api.Meta {
	return map[string][]api.Meta{
		"one key in two":        tables(table("a", "b", "d"), table("b", "d", "e")),
		"one key is all":        tables(table("a", "b", "b"), table("b", "b", "b")),
		"the same keys":         heap(2),
		"meet":                  tables(table("a", "b", "d"), table("b", "c", "e")),
		"within the one ahead":  tables(table("a", "b", "e"), table("b", "c", "d")),
		"around the one ahead":  tables(table("a", "c", "d"), table("b", "b", "e")),
		"fall":                  tables(table("a", "d", "e"), table("b", "b", "c")),
		"fall at the end":       tables(table("a", "b", "c"), table("b", "f", "f"), table("c", "d", "e")),
		"meet at the end":       append(row(31), table("z", "1030w", "1031")),
		"fall by bytes":         tables(table("a", "\x80", "\x80"), table("b", "\x7f", "\x7f")),
		"meet the first":        tables(table("a", "b", "c"), table("b", "d", "e"), table("c", "b", "f")),
		"one that begins first": tables(table("a", "b", "bb"), table("b", "b", "c")),
	}
}

// badNames are versions of which nothing but names is bad.
func badNames() map[string]api.Version {
	a, b, l := table("a", "b", "c"), table("a", "d", "e"), table("log", "x", "y")
	out := map[string]api.Version{
		"a name twice in level 0":            of(tables(a, b)),
		"a table twice in level 0":           of(tables(a, a)),
		"a name twice, others between":       of(tables(a, table("b", "b", "c"), b)),
		"a name twice in level 1":            of(nil, tables(a, b)),
		"a table in two levels":              of(tables(a), tables(a)),
		"a table in the first and last one":  of(tables(a), nil, nil, tables(a)),
		"a name in levels 2 and 3":           of(nil, nil, tables(a), tables(table("c", "a", "a"), b)),
		"32 and the first name twice":        of(append(heap(31), table("h0", "x", "x"))),
		"32 in two levels, the last twice":   of(heap(16), append(row(15), table("h15", "x", "x"))),
		"one table, a log of its name":       but(of(tables(a)), func(v *api.Version) { v.Log = "a" }),
		"32 tables, a log of the last one's": but(of(nil, row(32)), func(v *api.Version) { v.Log = "r1031" }),
	}
	for i := range 4 {
		out["a table has the log's name in level "+strconv.Itoa(i)] = but(small(), func(v *api.Version) { v.Levels[i] = append(v.Levels[i], l) })
	}
	return out
}

// bad are versions that have no more than 32 tables, and may not be.
func bad() map[string]api.Version {
	out := badNames()
	out["zero"] = api.Version{}
	for n := range 7 {
		if n != 4 {
			out["levels: "+strconv.Itoa(n)] = but(of(), func(v *api.Version) { v.Levels = make([][]api.Meta, n) })
		}
	}
	out["three levels with tables"] = but(small(), func(v *api.Version) { v.Levels = v.Levels[:3] })
	out["a fifth level, with a table"] = but(small(), func(v *api.Version) { v.Levels = append(v.Levels, row(1)) })
	out["many levels"] = but(of(), func(v *api.Version) { v.Levels = make([][]api.Meta, 1<<16) })
	for _, n := range []int{0, -1, math.MinInt, maxSeq + 1, maxSeq << 1, math.MaxInt} {
		out["Next "+strconv.Itoa(n)] = but(small(), func(v *api.Version) { v.Next = n })
	}
	for _, n := range []int{-1, -maxSeq, math.MinInt, maxSeq + 1, maxSeq << 1, math.MaxInt} {
		out["Seq "+strconv.Itoa(n)] = but(small(), func(v *api.Version) { v.Seq = n })
	}
	for _, s := range []string{"", text(17), strings.Repeat("é", 9), text(1 << 16)} {
		out["a log of "+strconv.Itoa(len(s))] = but(small(), func(v *api.Version) { v.Log = s })
	}
	for i := range 4 {
		level := " in level " + strconv.Itoa(i)
		for name, m := range badTables() {
			out[name+level] = but(of(), func(v *api.Version) { v.Levels[i] = tables(m) })
			out[name+", last"+level] = but(small(), func(v *api.Version) { v.Levels[i] = append(v.Levels[i], m) })
			out[name+", first"+level] = but(small(), func(v *api.Version) { v.Levels[i] = append(tables(m), v.Levels[i]...) })
		}
		for name, l := range badRows() {
			if i > 0 {
				out[name+level] = but(of(), func(v *api.Version) { v.Levels[i] = l })
			}
		}
	}
	return out
}

// tooMany are versions of more than 32 tables.
func tooMany() map[string]api.Version {
	return map[string]api.Version{
		"33 in level 0":          of(heap(33)),
		"33 in level 3":          of(nil, nil, nil, row(33)),
		"33 in two":              of(heap(32), row(1)),
		"33 in all":              of(heap(11), row(11), row(22)[11:], row(22)[:10]),
		"33 that may not be":     of(make([]api.Meta, 33)),
		"33 that are one":        of(nil, slices.Repeat(row(1), 33)),
		"33 in one level of one": {Levels: [][]api.Meta{heap(33)}},
		"33, the last in 5":      {Levels: [][]api.Meta{heap(16), row(16), nil, nil, row(17)[16:]}, Next: 1, Log: "log"},
		"33 levels of one":       {Levels: slices.Repeat([][]api.Meta{row(1)}, 33)},
		"33 without a log":       but(of(heap(33)), func(v *api.Version) { v.Log, v.Next = "", 0 }),
		"100,000":                of(nil, make([]api.Meta, 100000)),
		"many levels of many":    {Levels: slices.Repeat([][]api.Meta{make([]api.Meta, 100)}, 1000)},
	}
}

// refused visits all versions that may not be, with their errors.
func refused(visit func(name string, v api.Version, want api.Errno)) {
	for name, v := range bad() {
		visit(name, v, api.ErrBad)
	}
	for name, v := range tooMany() {
		visit(name, v, api.ErrMany)
	}
}

// same tells whether two versions are the same, field by field.
func same(a, b api.Version) bool {
	if a.Next != b.Next || a.Seq != b.Seq || a.Log != b.Log || len(a.Levels) != len(b.Levels) {
		return false
	}
	for i := range a.Levels {
		if !slices.Equal(a.Levels[i], b.Levels[i]) {
			return false
		}
	}
	return true
}

// wantVersion wants a version without an error; with one, none at all.
func wantVersion(t *testing.T, what string, got api.Version, err api.Errno, want api.Version, wantErr api.Errno) {
	t.Helper()
	if err != wantErr {
		t.Errorf("%s: error %d, not %d", what, err, wantErr)
	}
	if wantErr != api.OK {
		want = api.Version{}
		if len(got.Levels) != 0 {
			t.Errorf("%s: levels beside an error", what)
		}
	}
	if !same(got, want) {
		t.Errorf("%s: %s, not %s", what, short(got), short(want))
	}
	if err == api.OK && version.Check(got) != api.OK {
		t.Errorf("%s: an answer that may not be: %s", what, short(got))
	}
}

// short is a version's text.
func short(v api.Version) string {
	var b strings.Builder
	for i, l := range v.Levels[:min(6, len(v.Levels))] {
		b.WriteString(strconv.Itoa(i) + ":")
		for _, m := range l[:min(40, len(l))] {
			b.WriteString(" " + strconv.Quote(m.Name) + " " + strconv.Quote(m.Low) + "-" + strconv.Quote(m.High))
		}
		b.WriteString("; ")
	}
	return b.String() + "next " + strconv.Itoa(v.Next) + ", seq " + strconv.Itoa(v.Seq) + ", log " + strconv.Quote(v.Log)
}
