package compact_test

import (
	"bytes"
	"fmt"
	"math"
	"reflect"
	"slices"
	"strings"
	"testing"

	"millhand/api"
	"millhand/fs"
	"millhand/manifest"
	"millhand/table"
)

const (
	maxSeq   = 1 << 40
	lastNext = 1<<40 - 65536 // the greatest number from which tables may be named
	maxActs  = 65536         // chapter 2's MaxActs
)

func e(key string, seq int, value string) api.Entry {
	return api.Entry{Key: key, Seq: seq, Value: value}
}
func gone(key string, seq int) api.Entry { return api.Entry{Key: key, Seq: seq, Dead: true} }
func text(many int) string               { return strings.Repeat("t", many) }
func row(l ...api.Entry) []api.Entry     { return l }
func mem(l ...api.Entry) api.Mem         { return api.Mem{Entries: l} }
func metas(l ...api.Meta) []api.Meta     { return l }

// meta is a table that no file needs to hold.
func meta(name, low, high string) api.Meta {
	return api.Meta{Name: name, Size: 9, Many: 2, Low: low, High: high}
}

// apart are so many tables that no file holds, apart, rising.
func apart(name string, many int) (l []api.Meta) {
	for i := range many {
		n := fmt.Sprintf("%02d", i)
		l = append(l, meta(name+n, n, n+"x"))
	}
	return l
}

// of is a version of the first ones of its levels.
func of(levels ...[]api.Meta) api.Version {
	return api.Version{Levels: append(levels, make([][]api.Meta, 4-len(levels))...), Next: 7, Seq: 5, Log: "log"}
}

// but is a copy of a version, changed.
func but(v api.Version, change func(v *api.Version)) api.Version {
	v.Levels = slices.Clone(v.Levels)
	for i, l := range v.Levels {
		v.Levels[i] = slices.Clone(l)
	}
	change(&v)
	return v
}

// keyed are so many entries for each key, of values of so many bytes, in order.
func keyed(keys []string, each, size int) (l []api.Entry) {
	for _, k := range keys {
		for i := range each {
			l = append(l, e(k, each-i, text(size)))
		}
	}
	return l
}

// keys are so many, rising.
func keys(many int) (l []string) {
	for i := range many {
		l = append(l, fmt.Sprintf("%05d", i))
	}
	return l
}

// runs are entries of 500 bytes: of the first key so many, and so on; 40 of them have no table.
func runs(many ...int) (l []api.Entry) {
	for i, n := range many {
		l = append(l, keyed([]string{fmt.Sprintf("%03d", i)}, n, 500)...)
	}
	return l
}

// badEntries are lists that are no row.
func badEntries() map[string][]api.Entry {
	return map[string][]api.Entry{
		"zero":                    row(api.Entry{}),
		"no key":                  row(e("", 1, "x")),
		"a key of 65":             row(e(text(65), 1, "x")),
		"a value of 513":          row(e("a", 1, text(513))),
		"the number 0":            row(e("a", 0, "x")),
		"above MaxSeq":            row(e("a", maxSeq+1, "x")),
		"dead, with a value":      row(api.Entry{Key: "a", Seq: 1, Dead: true, Value: "x"}),
		"keys fall":               row(e("b", 1, ""), e("a", 1, "")),
		"numbers rise":            row(e("a", 1, ""), e("a", 2, "")),
		"one twice":               row(e("a", 1, ""), gone("a", 1)),
		"the last falls":          append(runs(20, 20), e("0", 1, "")),
		"bad, and have no table":  append(runs(40), e("", 1, "")),
		"bad in the second table": append(keyed(keys(1024), 1, 0), e("z", 0, "")),
	}
}

// refusedEntries visits lists that are no row, with their errors.
func refusedEntries(visit func(name string, l []api.Entry, want api.Errno)) {
	for name, l := range badEntries() {
		visit(name, l, api.ErrBad)
	}
	visit("65,537", keyed(keys(65537), 1, 0), api.ErrMany)
	visit("65,537 that may not be", make([]api.Entry, 65537), api.ErrMany)
}

// refusedMems visits entries in memory that may not be, with their errors.
func refusedMems(visit func(name string, m api.Mem, want api.Errno)) {
	for name, l := range badEntries() {
		if len(l) <= 512 {
			visit(name, api.Mem{Entries: l}, api.ErrBad)
		}
	}
	visit("513", api.Mem{Entries: keyed(keys(513), 1, 0)}, api.ErrMany)
	visit("513 that may not be", api.Mem{Entries: make([]api.Entry, 513)}, api.ErrMany)
}

// badVersions are such as may not be, with their errors.
func badVersions() map[string]api.Version {
	out := map[string]api.Version{
		"zero":         {},
		"three levels": but(of(), func(v *api.Version) { v.Levels = v.Levels[:3] }),
		"no log":       but(of(), func(v *api.Version) { v.Log = "" }),
		"a name twice": of(metas(meta("a", "b", "c"), meta("a", "b", "c"))),
		"meet":         of(nil, metas(meta("a", "b", "c"), meta("b", "c", "d"))),
		"a bad table":  of(metas(api.Meta{Name: "a"})),
	}
	for _, n := range []int{0, -1, math.MinInt, maxSeq + 1, math.MaxInt} {
		out[fmt.Sprintf("Next %d", n)] = but(of(), func(v *api.Version) { v.Next = n })
	}
	for _, n := range []int{-1, maxSeq + 1} {
		out[fmt.Sprintf("Seq %d", n)] = but(of(), func(v *api.Version) { v.Seq = n })
	}
	return out
}

// refusedVersions visits versions that may not be, with their errors.
func refusedVersions(visit func(name string, v api.Version, want api.Errno)) {
	for name, v := range badVersions() {
		visit(name, v, api.ErrBad)
	}
	visit("33", of(apart("r", 33)), api.ErrMany)
	visit("33 that may not be", of(nil, make([]api.Meta, 33)), api.ErrMany)
}

// ok is what was answered without an error.
func ok[T any](t *testing.T) func(T, api.Errno) T {
	return func(x T, e api.Errno) T {
		t.Helper()
		if e != api.OK {
			t.Fatalf("the error %d", e)
		}
		return x
	}
}

// full is a block of one byte, again and again.
func full(x byte) []byte { return bytes.Repeat([]byte{x}, api.Block) }

// bare is files on a disk of so many blocks, none of noughts from First on, without any files.
func bare(t *testing.T, blocks int) api.Fs {
	t.Helper()
	f := ok[api.Fs](t)(fs.Format(blocks))
	for i := api.First * api.Block; i < len(f.Disk.Data); i++ {
		f.Disk.Data[i] = byte(200 + i%50)
	}
	return f
}

// stored is files with one more, which holds bytes.
func stored(t *testing.T, f api.Fs, name string, b []byte) api.Fs {
	t.Helper()
	return ok[api.Fs](t)(manifest.Store(f, name, b))
}

// committed is files behind a commit, on whose disk nothing was done.
func committed(t *testing.T, f api.Fs) api.Fs {
	t.Helper()
	return ok[api.Fs](t)(fs.Clear(ok[api.Fs](t)(fs.Commit(f))))
}

// beside is files with two, with free blocks between, around which tables are stored; nothing waits.
func beside(t *testing.T, blocks int) api.Fs {
	t.Helper()
	f := stored(t, bare(t, blocks), "log", full(1))
	f = stored(t, f, "gap", slices.Concat(full(2), full(2)))
	f = committed(t, stored(t, f, "other", full(3)))
	return committed(t, ok[api.Fs](t)(fs.Delete(f, "gap")))
}

// busy is files on whose disk so many acts were done already, syncs, and so many writes wait.
func busy(f api.Fs, acts, writes int) api.Fs {
	f.Disk.Done = slices.Repeat([]api.Act{{Sync: true}}, acts)
	f.Disk.Wait = slices.Repeat([]api.Put{{N: api.First + 20, Data: full(1)}}, writes)
	return f
}

// badFs are files that may not be.
func badFs(t *testing.T) map[string]api.Fs {
	t.Helper()
	good := beside(t, 70)
	otherGen, otherDir, otherKept, noDisk, below := good, good, good, good, good
	otherGen.Gen++
	otherDir.Dir = api.Dir{Files: append(slices.Clone(good.Dir.Files), good.Dir.Files[0])}
	otherKept.Kept = api.Dir{Files: good.Kept.Files[1:]}
	noDisk.Disk.Data = good.Disk.Data[1:]
	below.Disk.Wait = []api.Put{{N: api.First - 1, Data: full(1)}}
	return map[string]api.Fs{"zero": {}, "another gen": otherGen, "another directory": otherDir, "another committed one": otherKept, "no disk": noDisk, "a write below First": below}
}

// house is files, and the version that tells of their tables.
type house struct {
	f api.Fs
	v api.Version
}

// with is a house with one more table, the last one of its level.
func (h house) with(t *testing.T, level int, name string, l ...api.Entry) house {
	t.Helper()
	b, m, err := table.Build(l)
	if err != api.OK {
		t.Fatalf("no table of %s: error %d", short(l), err)
	}
	m.Name = name
	return house{stored(t, h.f, name, b), but(h.v, func(v *api.Version) { v.Levels[level] = append(v.Levels[level], m) })}
}

// at is a house with another number for the next table.
func (h house) at(next int) house {
	return house{h.f, but(h.v, func(v *api.Version) { v.Next = next })}
}

func empty(t *testing.T, blocks int) house { return house{beside(t, blocks), of()} }

// small is a house with tables in all levels, of levels that are older the lower they are.
func small(t *testing.T) house {
	h := empty(t, 420)
	h = h.with(t, 3, "z1", e("b", 1, "z"), e("p", 1, "z"))
	h = h.with(t, 3, "z2", e("q", 2, "z"), e("x", 2, "z"))
	h = h.with(t, 2, "y1", e("b", 5, "y"), gone("c", 4))
	h = h.with(t, 2, "y2", e("m", 5, "y"), e("n", 6, "y"))
	h = h.with(t, 1, "x1", e("a", 9, "x"), gone("b", 8), e("b", 7, "x"))
	h = h.with(t, 1, "x2", gone("m", 10), e("m", 7, "x"), e("o", 9, "x"))
	h = h.with(t, 1, "x3", e("s", 9, "x"))
	h = h.with(t, 0, "w1", e("a", 11, "w"), gone("n", 12))
	h = h.with(t, 0, "w2", gone("a", 14), e("b", 13, "w"))
	h.f = committed(t, h.f)
	return h.at(20)
}

// short is a list's text, of the first few of its entries.
func short(l []api.Entry) string {
	var b strings.Builder
	fmt.Fprintf(&b, "%d:", len(l))
	for _, x := range l[:min(8, len(l))] {
		fmt.Fprintf(&b, " %q %d", x.Key, x.Seq)
		if x.Dead {
			b.WriteString(" dead")
		}
	}
	return b.String()
}

func sameRows(a, b [][]api.Entry) bool { return slices.EqualFunc(a, b, slices.Equal[[]api.Entry]) }

func sameDir(a, b api.Dir) bool {
	return slices.EqualFunc(a.Files, b.Files, func(f, g api.File) bool {
		return f.Name == g.Name && slices.Equal(f.Extents, g.Extents)
	})
}

// sameFs compares files in all their parts.
func sameFs(a, b api.Fs) bool {
	put := func(p, q api.Put) bool { return p.N == q.N && bytes.Equal(p.Data, q.Data) }
	act := func(x, y api.Act) bool { return x.Sync == y.Sync && put(x.Put, y.Put) }
	return bytes.Equal(a.Disk.Data, b.Disk.Data) && slices.EqualFunc(a.Disk.Wait, b.Disk.Wait, put) && slices.EqualFunc(a.Disk.Done, b.Disk.Done, act) &&
		a.Gen == b.Gen && sameDir(a.Dir, b.Dir) && sameDir(a.Kept, b.Kept)
}

// sameVersion compares versions field by field.
func sameVersion(a, b api.Version) bool {
	return a.Next == b.Next && a.Seq == b.Seq && a.Log == b.Log && slices.EqualFunc(a.Levels, b.Levels, slices.Equal[[]api.Meta])
}

// wantAlone looks whether an error stands alone, beside zero values.
func wantAlone(t *testing.T, name string, err, want api.Errno, l ...any) {
	t.Helper()
	if err != want {
		t.Errorf("%s: error %d, not %d", name, err, want)
	}
	for i, x := range l {
		if v := reflect.ValueOf(x); !v.IsZero() && (v.Kind() != reflect.Slice || v.Len() > 0) {
			t.Errorf("%s: the result %d beside an error is no zero value", name, i)
		}
	}
}
