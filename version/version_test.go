package version_test

import (
	"math"
	"slices"
	"strconv"
	"strings"
	"testing"

	"millhand/api"
	"millhand/version"
)

func TestCheck(t *testing.T) { // P16.1, and the limits at and one beyond
	for name, v := range good() {
		if err := version.Check(v); err != api.OK {
			t.Errorf("%s: Check: error %d", name, err)
		}
	}
	refused(func(name string, v api.Version, want api.Errno) {
		if err := version.Check(v); err != want {
			t.Errorf("%s: Check: error %d, not %d", name, err, want)
		}
	})
}

func TestCheckOfSmallRows(t *testing.T) { // P16.1: all pairs of tables of few keys, in each level
	keys := []string{"a", "aa", "b", "c"}
	var all []api.Meta
	for _, low := range keys {
		for _, high := range keys {
			all = append(all, table("x", low, high))
		}
	}
	for i := range 4 {
		for _, x := range all {
			for _, y := range all {
				y.Name = "y"
				v := but(of(), func(v *api.Version) { v.Levels[i] = tables(x, y) })
				if err, want := version.Check(v), plainCheck(v); err != want {
					t.Errorf("%s: Check: error %d, not %d", short(v), err, want)
				}
			}
		}
	}
}

func TestRefusedFirst(t *testing.T) { // P16.1: Check's error ahead of all others
	refused(func(name string, v api.Version, want api.Errno) {
		for _, m := range []api.Meta{table("new", "a", "b"), {}} {
			got, err := version.Add(v, m)
			wantVersion(t, name+": Add", got, err, api.Version{}, want)
			for _, level := range []int{-1, 0, 2, 3, math.MaxInt} {
				got, err := version.Swap(v, api.Work{Level: level, Upper: tables(m)}, make([]api.Meta, 33))
				wantVersion(t, name+": Swap", got, err, api.Version{}, want)
			}
		}
		for _, level := range []int{-1, 0, 3, 4, math.MaxInt} {
			for _, low := range []string{"", "a", text(65)} {
				if l, err := version.Overlap(v, level, low, "b"); len(l) != 0 || err != want {
					t.Errorf("%s: Overlap: %v, error %d, not %d", name, l, err, want)
				}
			}
		}
		if l, err := version.Names(v); len(l) != 0 || err != want {
			t.Errorf("%s: Names: %v, error %d, not %d", name, l, err, want)
		}
	})
}

func TestNew(t *testing.T) { // P16.1, MaxName at it and one more
	for _, log := range []string{"log", "\x00", "\xff", text(16), strings.Repeat("é", 8)} {
		got, err := version.New(log)
		wantVersion(t, "New", got, err, api.Version{Levels: make([][]api.Meta, 4), Next: 1, Log: log}, api.OK)
	}
	for _, log := range []string{"", text(17), strings.Repeat("é", 9), text(1 << 16)} {
		got, err := version.New(log)
		wantVersion(t, "New", got, err, api.Version{}, api.ErrName)
	}
}

// newTables are tables that can be added to some versions, or to none.
func newTables() map[string]api.Meta {
	out := badTables()
	for _, m := range small().Levels[1] {
		out["of level 1: "+m.Name] = m
	}
	out["new"] = table("new", "a", "z")
	out["the log's name"] = table("log", "a", "z")
	out["the first of the example"] = table("a", "b", "d")
	out["its name alone"] = table("a", "x", "x")
	out["at the limits"] = api.Meta{Name: "n" + text(15), Size: 16384, Many: 65536, Low: text(64), High: text(64)}
	out["at the least"] = api.Meta{Name: "\x00", Size: 1, Many: 1, Low: "\x00", High: "\x00"}
	return out
}

func TestAdd(t *testing.T) { // P16.2
	v := of(nil, row(3))
	for _, m := range []api.Meta{table("b", "m", "z"), table("a", "a", "z"), table("c", "a", "b")} {
		got, err := version.Add(v, m)
		v.Levels[0] = append(v.Levels[0], m)
		wantVersion(t, "the last one", got, err, v, api.OK)
	}
	first := example().Levels[0][0]
	got, err := version.Add(example(), first)
	wantVersion(t, "again", got, err, api.Version{}, api.ErrBad)
	for name, v := range good() {
		for what, m := range newTables() {
			want, wantErr := plainAdd(v, m)
			got, err := version.Add(v, m)
			wantVersion(t, name+", "+what, got, err, want, wantErr)
		}
	}
}

func TestAddHowMany(t *testing.T) { // P16.2, MaxMetas: at it, one more, and ahead of ErrBad
	v := of(nil, row(20))
	for i := range 12 {
		m := table("n"+strconv.Itoa(i), "a", "b")
		got, err := version.Add(v, m)
		v.Levels[0] = append(v.Levels[0], m)
		wantVersion(t, "up to 32", got, err, v, api.OK)
	}
	for what, m := range newTables() {
		got, err := version.Add(v, m)
		wantVersion(t, "33, "+what, got, err, api.Version{}, api.ErrMany)
	}
	v.Levels[0] = v.Levels[0][:11]
	for what, m := range badTables() {
		got, err := version.Add(v, m)
		wantVersion(t, "32, "+what, got, err, api.Version{}, api.ErrBad)
	}
}

func wantOverlap(t *testing.T, what string, v api.Version, level int, low, high string, want []api.Meta) {
	t.Helper()
	if got, err := version.Overlap(v, level, low, high); !slices.Equal(got, want) || err != api.OK {
		t.Errorf("%s: Overlap %d %q %q: %v, error %d, not %v", what, level, low, high, got, err, want)
	}
}

func TestOverlap(t *testing.T) { // P16.4
	v := example()
	a, b := v.Levels[0][0], v.Levels[0][1]
	wantOverlap(t, "example", v, 0, "e", "z", tables(b))
	wantOverlap(t, "example", v, 0, "d", "d", tables(a, b))
	wantOverlap(t, "example", v, 0, "a", "a", nil)
	wantOverlap(t, "from low to the table's Low", v, 0, "a", "b", tables(a))
	wantOverlap(t, "just below its Low", v, 0, "a", "a\xff", nil)
	wantOverlap(t, "at its High", v, 0, "f", "z", tables(b))
	wantOverlap(t, "just above its High", v, 0, "f\x00", "z", nil)
	wantOverlap(t, "in their order", of(tables(b, a)), 0, "a", "z", tables(b, a))
	wantOverlap(t, "the longest keys", v, 0, strings.Repeat("\x00", 64), strings.Repeat("\xff", 64), tables(a, b))
	wantOverlap(t, "low above high, within a table", v, 0, "d", "b", tables(a))
	wantOverlap(t, "low above high, beside", v, 0, "e", "b", nil)
	keys := []string{"a", "aa", "b", "c", "d", "d\x00", "e", "f", "g", "h", "k", "z", "1015", "1015x", "\x00", "\xff", text(64)}
	for name, v := range good() {
		for level := range 4 {
			for _, low := range keys {
				for _, high := range keys {
					wantOverlap(t, name, v, level, low, high, plainOverlap(v, level, low, high))
				}
			}
		}
	}
}

func TestOverlapRefused(t *testing.T) { // P16.4: Levels and MaxKey at and one beyond, the level ahead of the keys
	keys := []string{"", "a", text(64), text(65), strings.Repeat("é", 33)}
	for _, level := range []int{math.MinInt, -1, 0, 3, 4, 5, math.MaxInt} {
		for _, low := range keys {
			for _, high := range keys {
				want := api.OK
				switch {
				case level < 0 || level > 3:
					want = api.ErrArg
				case low == "" || high == "" || len(low) > 64 || len(high) > 64:
					want = api.ErrText
				}
				l, err := version.Overlap(small(), level, low, high)
				if err != want || want != api.OK && len(l) != 0 {
					t.Errorf("Overlap %d, keys of %d and %d: %v, error %d, not %d", level, len(low), len(high), l, err, want)
				}
			}
		}
	}
}

func TestNames(t *testing.T) { // P16.4
	wantNames := func(what string, v api.Version, want []string) {
		t.Helper()
		if got, err := version.Names(v); !slices.Equal(got, want) || err != api.OK {
			t.Errorf("%s: Names: %q, error %d, not %q", what, got, err, want)
		}
	}
	wantNames("example", example(), []string{"a", "b", "log"})
	wantNames("none", of(), []string{"log"})
	wantNames("by bytes", of(tables(table("t10", "a", "b"), table("t9", "a", "b"), table("t", "a", "b"), table("l", "a", "b"), table("\xff", "a", "b"), table("Z", "a", "b"))), []string{"Z", "l", "log", "t", "t10", "t9", "\xff"})
	for name, v := range good() {
		wantNames(name, v, plainNames(v))
	}
}

// changes are all ways in which one field of a version is made another one.
func changes(v api.Version) (out []api.Version) {
	add := func(change func(v *api.Version)) { out = append(out, but(v, change)) }
	add(func(v *api.Version) { v.Next++ })
	add(func(v *api.Version) { v.Seq++ })
	add(func(v *api.Version) { v.Log += "\x00" })
	add(func(v *api.Version) { v.Levels = append(v.Levels, nil) })
	add(func(v *api.Version) { v.Levels = append([][]api.Meta{heap(1)}, v.Levels...) })
	for i, l := range v.Levels {
		add(func(v *api.Version) { v.Levels[i] = append(v.Levels[i], api.Meta{}) })
		add(func(v *api.Version) { v.Levels[i] = append(tables(table("one", "a", "a")), v.Levels[i]...) })
		add(func(v *api.Version) { v.Levels = slices.Delete(v.Levels, i, i+1) })
		for k := range l {
			add(func(v *api.Version) { v.Levels[i] = slices.Delete(v.Levels[i], k, k+1) })
			add(func(v *api.Version) { v.Levels[i][k].Name += "\x00" })
			add(func(v *api.Version) { v.Levels[i][k].Size++ })
			add(func(v *api.Version) { v.Levels[i][k].Many-- })
			add(func(v *api.Version) { v.Levels[i][k].Low = "\x00" + v.Levels[i][k].Low })
			add(func(v *api.Version) { v.Levels[i][k].High += "\x00" })
			if k > 0 {
				add(func(v *api.Version) { slices.Reverse(v.Levels[i][k-1 : k+1]) })
			}
		}
	}
	return out
}

func TestSame(t *testing.T) { // P16.4
	hold := func(name string, v api.Version) {
		if !version.Same(v, v) || !version.Same(v, deepCopy(v)) {
			t.Errorf("%s: not the same as itself", name)
		}
		none := but(v, func(v *api.Version) {
			for i, l := range v.Levels {
				if len(l) == 0 {
					v.Levels[i] = tables()
				}
			}
		})
		if !version.Same(v, none) || !version.Same(none, v) {
			t.Errorf("%s: not the same with lists without elements that are not nil", name)
		}
	}
	for name, v := range good() {
		hold(name, v)
		for i, x := range changes(v) {
			if version.Same(v, x) != same(v, x) || version.Same(x, v) != same(v, x) {
				t.Errorf("%s, change %d: %s and %s", name, i, short(v), short(x))
			}
		}
	}
	refused(func(name string, v api.Version, _ api.Errno) {
		hold(name, v)
		if version.Same(v, example()) || version.Same(example(), v) {
			t.Errorf("%s: the same as the example", name)
		}
	})
	for i, x := range changes(small()) { // none of which is the version
		if version.Same(small(), x) {
			t.Errorf("change %d: the same: %s", i, short(x))
		}
	}
	if !version.Same(api.Version{}, api.Version{Levels: [][]api.Meta{}}) || version.Same(api.Version{}, api.Version{Levels: make([][]api.Meta, 1)}) {
		t.Error("no levels: nil or not, and one level")
	}
}
