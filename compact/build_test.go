package compact_test

import (
	"bytes"
	"fmt"
	"math"
	"slices"
	"testing"

	"millhand/api"
	"millhand/compact"
	"millhand/fs"
	"millhand/manifest"
	"millhand/table"
)

func TestBuildExample(t *testing.T) { // P19.2
	_, l, err := compact.Build(bare(t, 64), row(e("a", 1, "x")), 7)
	if err != api.OK || len(l) != 1 || l[0].Name != "t7" {
		t.Errorf("%v, error %d", l, err)
	}
}

// wantBuild wants the very files and tables that rows stored one by one make.
func wantBuild(t *testing.T, name string, f api.Fs, l []api.Entry, next int) {
	t.Helper()
	want, tables, wantErr := plainBuild(f, l, next)
	g, got, err := compact.Build(f, l, next)
	if err != api.OK || wantErr != api.OK || !slices.Equal(got, tables) || !sameFs(g, want) {
		t.Errorf("%s: %v, not %v, error %d, or other files", name, got, tables, err)
		return
	}
	var back []api.Entry
	for i, m := range got {
		b, err := manifest.Fetch(g, m.Name, m.Size)
		part, other := table.Read(b)
		if err != api.OK || other != api.OK || m.Name != fmt.Sprint("t", next+i) || m.Many != len(part) || m.Low != part[0].Key || m.High != part[len(part)-1].Key {
			t.Errorf("%s: the table %d is not as it is told", name, i)
		}
		back = append(back, part...)
	}
	if !slices.Equal(back, l) {
		t.Errorf("%s: what is read back is not what was built", name)
	}
	rows, err := compact.Rows(g, got)
	if err != api.OK || !slices.Equal(slices.Concat(rows...), l) {
		t.Errorf("%s: Rows: error %d, or other entries", name, err)
	}
}

func wantNoBuild(t *testing.T, name string, f api.Fs, l []api.Entry, next int, want api.Errno) {
	t.Helper()
	g, tables, err := compact.Build(f, l, next)
	wantAlone(t, name, err, want, g, tables)
}

// lists are entries that can be cut.
func lists() map[string][]api.Entry {
	return map[string][]api.Entry{
		"none":             nil,
		"one":              row(e("a", 1, "x")),
		"one dead":         row(gone("a", maxSeq)),
		"the longest":      row(e(text(64), 1, text(512))),
		"some":             row(gone("a", 3), e("a", 2, ""), e("ab", 9, "y"), e("\xff", 1, "\x00")),
		"1,024":            keyed(keys(1024), 1, 0),
		"1,025":            keyed(keys(1025), 1, 0),
		"two tables":       runs(20, 20),
		"three tables":     runs(25, 15, 15),
		"a table of a key": runs(30, 1, 30),
	}
}

func TestBuild(t *testing.T) { // P19.2, P19.7: files, and tables with their names
	for name, l := range lists() {
		for _, next := range []int{1, 2, 7, 9, 99, 1 << 32, lastNext - 1, lastNext} {
			wantBuild(t, fmt.Sprintf("%s, from %d on", name, next), bare(t, 500), l, next)
		}
		wantBuild(t, name+", beside others", beside(t, 500), l, 1)
		wantBuild(t, name+", while a block waits", ok[api.Fs](t)(fs.Put(beside(t, 500), "log", 0, full(77))), l, 1)
	}
	wantBuild(t, "behind others of that name", stored(t, stored(t, bare(t, 64), "t6", nil), "t8", nil), row(e("a", 1, "x")), 7)
}

func TestBuildWaits(t *testing.T) { // P19.2: nothing is committed, nothing lasts yet
	f := beside(t, 500)
	g, l, err := compact.Build(f, runs(20, 20), 3)
	if err != api.OK || g.Gen != f.Gen || !sameDir(g.Kept, f.Kept) || !bytes.Equal(g.Disk.Data, f.Disk.Data) {
		t.Errorf("error %d, or other files are committed", err)
	}
	if blocks := (l[0].Size+127)/128 + (l[1].Size+127)/128; len(g.Disk.Wait) != blocks || len(g.Disk.Done) != blocks {
		t.Errorf("%d writes wait, %d acts were done, not %d", len(g.Disk.Wait), len(g.Disk.Done), blocks)
	}
	for _, name := range []string{"log", "other"} {
		b, _ := fs.Get(f, name, 0)
		if c, err := fs.Get(g, name, 0); err != api.OK || !bytes.Equal(b, c) {
			t.Errorf("%s is another one, error %d", name, err)
		}
	}
}

func TestBuildErrorsInOrder(t *testing.T) { // P19.2: the files', Cut's, the number's, manifest.Store's
	numbers := []int{0, -1, math.MinInt, lastNext + 1, maxSeq, math.MaxInt}
	taken := stored(t, bare(t, 300), "t7", nil)
	for name, f := range badFs(t) {
		for _, l := range [][]api.Entry{nil, row(e("a", 1, "x")), row(e("", 1, "x")), runs(40), keyed(keys(65537), 1, 0)} {
			wantNoBuild(t, "files: "+name, f, l, 7, api.ErrBad)
			wantNoBuild(t, "files: "+name, f, l, 0, api.ErrBad)
		}
	}
	refusedEntries(func(name string, l []api.Entry, want api.Errno) {
		for _, n := range append(numbers, 7) {
			wantNoBuild(t, fmt.Sprint(name, ", from ", n), taken, l, n, want)
		}
	})
	for _, n := range append(numbers, 7) {
		wantNoBuild(t, fmt.Sprint("one key too long, from ", n), taken, runs(40), n, api.ErrText)
		wantNoBuild(t, fmt.Sprint("the last key too long, from ", n), taken, runs(20, 40), n, api.ErrText)
	}
	for _, n := range numbers {
		for name, l := range lists() {
			wantNoBuild(t, fmt.Sprint(name, ", from ", n), taken, l, n, api.ErrArg)
			wantNoBuild(t, fmt.Sprint(name, ", no room, from ", n), bare(t, 35), l, n, api.ErrArg)
		}
	}
}

func TestBuildWithoutRoom(t *testing.T) { // P19.2: manifest.Store's error, of whichever row
	three := runs(25, 15, 15)
	_, l, err := compact.Build(bare(t, 500), three, 1)
	if err != api.OK || len(l) != 3 {
		t.Fatalf("%v, error %d", l, err)
	}
	blocks := func(l []api.Meta) (n int) {
		for _, m := range l {
			n += (m.Size + 127) / 128
		}
		return n
	}
	for i := range l {
		taken := stored(t, bare(t, 500), l[i].Name, nil)
		wantNoBuild(t, "there is "+l[i].Name, taken, three, 1, api.ErrThere)
		n := blocks(l[:i+1])
		wantNoBuild(t, fmt.Sprint("no room for the table ", i), bare(t, api.First+n-1), three, 1, api.ErrRoom)
	}
	n := blocks(l[:2])
	wantNoBuild(t, "no act for the second table", busy(bare(t, 500), maxActs-n+1, 0), three, 1, api.ErrFull)
	wantNoBuild(t, "no more may wait, for the first one", busy(bare(t, 500), 0, maxActs), three, 1, api.ErrFull)
	wantNoBuild(t, "no room ahead of one that is there", stored(t, bare(t, api.First+5), l[1].Name, nil), three, 1, api.ErrRoom)
	wantBuild(t, "just room", bare(t, api.First+blocks(l)), three, 1)
	wantBuild(t, "just acts", busy(bare(t, 64), maxActs-1, 0), row(e("a", 1, "x")), 1)
	f := bare(t, 500)
	for i := range api.MaxFiles - 3 {
		f = ok[api.Fs](t)(fs.Create(f, string(rune('A'+i)), 1))
	}
	wantBuild(t, "just files", f, three, 1)
	wantNoBuild(t, "a file too many", ok[api.Fs](t)(fs.Create(f, "z", 1)), three, 1, api.ErrRoom)
}

func TestRows(t *testing.T) { // P19.3: the entries of each, in order
	h := small(t)
	all := slices.Concat(h.v.Levels...)
	slices.Reverse(all)
	want, _ := plainRows(h.f, all)
	for i := range len(all) + 1 {
		for j := range i + 1 {
			if rows, err := compact.Rows(h.f, all[j:i]); err != api.OK || !sameRows(rows, want[j:i]) {
				t.Errorf("from %d to %d: error %d, or other entries", j, i, err)
			}
		}
	}
	twice := metas(all[1], all[0], all[1])
	if rows, err := compact.Rows(h.f, twice); err != api.OK || !sameRows(rows, [][]api.Entry{want[1], want[0], want[1]}) {
		t.Errorf("one twice: error %d, or other entries", err)
	}
	told := all[0]
	told.Many, told.Low, told.High = -7, "z", ""
	if rows, err := compact.Rows(h.f, metas(told)); err != api.OK || !sameRows(rows, want[:1]) {
		t.Errorf("told otherwise: error %d, or other entries", err)
	}
}

// badMetas are tables that can't be read of small's files, with their errors.
func badMetas(h house) map[string]struct {
	m    api.Meta
	want api.Errno
} {
	x := h.v.Levels[1][0]
	as := func(name string, size int) api.Meta { return api.Meta{Name: name, Size: size} }
	whole, _ := fs.Size(h.f, x.Name)
	return map[string]struct {
		m    api.Meta
		want api.Errno
	}{
		"zero":                  {api.Meta{}, api.ErrName},
		"a name of 17":          {as(text(17), x.Size), api.ErrName},
		"no file":               {as("t99", x.Size), api.ErrNone},
		"no file, and no size":  {as("t99", -1), api.ErrNone},
		"below 0":               {as(x.Name, -1), api.ErrArg},
		"the least of all":      {as(x.Name, math.MinInt), api.ErrArg},
		"more than the file":    {as(x.Name, whole*api.Block+1), api.ErrArg},
		"the greatest of all":   {as(x.Name, math.MaxInt), api.ErrArg},
		"no byte":               {as(x.Name, 0), api.ErrBad},
		"a byte less":           {as(x.Name, x.Size-1), api.ErrBad},
		"a byte more":           {as(x.Name, x.Size+1), api.ErrBad},
		"all the file has":      {as(x.Name, whole*api.Block), api.ErrBad},
		"not a table":           {as("log", 128), api.ErrBad},
		"no key, and not there": {meta("t98", "", ""), api.ErrNone},
	}
}

func TestRowsErrorsInOrder(t *testing.T) { // P19.3: of each table, in order: manifest.Fetch's error, table.Read's
	h := small(t)
	h.f = stored(t, h.f, "long", make([]byte, 16384))
	h.f = ok[api.Fs](t)(fs.Create(h.f, "longer", 129))
	bad := badMetas(h)
	bad["noughts"] = struct {
		m    api.Meta
		want api.Errno
	}{api.Meta{Name: "long", Size: 16384}, api.ErrBad}
	bad["more bytes than a table may have"] = struct {
		m    api.Meta
		want api.Errno
	}{api.Meta{Name: "longer", Size: 16385}, api.ErrText}
	good := h.v.Levels[1]
	for name, x := range bad {
		for i := range 4 {
			l := slices.Insert(slices.Clone(good), i, x.m)
			rows, err := compact.Rows(h.f, l)
			wantAlone(t, name, err, x.want, rows)
		}
		for other, y := range bad {
			rows, err := compact.Rows(h.f, metas(good[0], x.m, y.m))
			wantAlone(t, name+", and "+other, err, x.want, rows)
		}
	}
	for name, f := range badFs(t) {
		for _, l := range [][]api.Meta{good, metas(api.Meta{}), metas(good[0], bad["no file"].m)} {
			rows, err := compact.Rows(f, l)
			wantAlone(t, "files: "+name, err, api.ErrBad, rows)
		}
		rows, err := compact.Rows(f, nil)
		wantAlone(t, "no tables, files: "+name, err, api.OK, rows)
	}
}
