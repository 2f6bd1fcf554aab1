package compact_test

import (
	"bytes"
	"fmt"
	"math"
	"math/rand"
	"slices"
	"testing"

	"millhand/api"
	"millhand/compact"
	"millhand/fs"
)

func wantCompact(t *testing.T, name string, h house, w api.Work, oldest int) house {
	t.Helper()
	want, wantErr := plainCompact(h, w, oldest)
	g, x, err := compact.Compact(h.f, h.v, w, oldest)
	if err != api.OK || wantErr != api.OK || !sameVersion(x, want.v) || !sameFs(g, want.f) {
		t.Errorf("%s: error %d, not %d; %v, not %v; or other files", name, err, wantErr, x, want.v)
	}
	return house{g, x}
}

func wantNoCompact(t *testing.T, name string, h house, w api.Work, oldest int, want api.Errno) {
	t.Helper()
	g, x, err := compact.Compact(h.f, h.v, w, oldest)
	wantAlone(t, name, err, want, g, x)
}

// works are such as stand in small's version: some tables of a level, and some of the next one.
func works(v api.Version) (out []api.Work) {
	for level := range 3 {
		upper, lower := v.Levels[level], v.Levels[level+1]
		for i := range len(upper) + 1 {
			for j := range len(lower) + 1 {
				out = append(out, api.Work{Level: level, Upper: upper[:i], Lower: lower[:j]}, api.Work{Level: level, Upper: upper[i:], Lower: lower[j:]})
			}
		}
		turned := slices.Clone(upper)
		slices.Reverse(turned)
		out = append(out, api.Work{Level: level, Upper: turned, Lower: lower})
	}
	return out
}

func TestCompact(t *testing.T) { // P19.5: of all works of some tables, held against a plain reading
	h, done := small(t), 0
	for i, w := range works(h.v) {
		for _, oldest := range []int{0, 4, 7, 8, 9, 10, 12, 13, 14, 99, maxSeq} {
			want, wantErr := plainCompact(h, w, oldest)
			g, x, err := compact.Compact(h.f, h.v, w, oldest)
			if err != wantErr || err == api.OK && (!sameVersion(x, want.v) || !sameFs(g, want.f)) {
				t.Fatalf("the work %d, oldest %d: error %d, not %d; %v, not %v; or other files", i, oldest, err, wantErr, x, want.v)
			}
			if err == api.OK {
				wantTold(t, fmt.Sprintf("the work %d, oldest %d", i, oldest), house{g, x})
				done++
			}
		}
	}
	if done < 200 {
		t.Errorf("%d are done only", done)
	}
}

// wantLevel wants a level's only table to have these entries.
func wantLevel(t *testing.T, name string, h house, w api.Work, oldest int, want []api.Entry) {
	t.Helper()
	g, x, err := compact.Compact(h.f, h.v, w, oldest)
	if err != api.OK {
		t.Errorf("%s: error %d", name, err)
		return
	}
	rows, _ := compact.Rows(g, x.Levels[w.Level+1])
	if !slices.Equal(slices.Concat(rows...), want) {
		t.Errorf("%s: %s, not %s", name, short(slices.Concat(rows...)), short(want))
	}
	if len(want) == 0 && len(x.Levels[w.Level+1]) != 0 {
		t.Errorf("%s: tables of nothing", name)
	}
}

func TestCompactByHand(t *testing.T) { // P19.5
	h := small(t)
	w := api.Work{Upper: h.v.Levels[0], Lower: h.v.Levels[1][:2]}
	g, x, err := compact.Compact(h.f, h.v, w, 13)
	if err != api.OK || len(x.Levels[0]) != 0 || len(x.Levels[1]) != 2 || x.Next != 21 || x.Seq != 5 || x.Log != "log" {
		t.Fatalf("%v, error %d", x, err)
	}
	if m := x.Levels[1][0]; m.Name != "t20" || m.Low != "a" || m.High != "o" || x.Levels[1][1] != h.v.Levels[1][2] {
		t.Errorf("%v", x.Levels[1])
	}
	rows, err := compact.Rows(g, x.Levels[1][:1])
	want := row(gone("a", 14), e("a", 11, "w"), e("b", 13, "w"), gone("m", 10), gone("n", 12), e("o", 9, "x"))
	if err != api.OK || !slices.Equal(rows[0], want) {
		t.Errorf("%v, error %d", rows, err)
	}
	if l, _ := fs.Names(g); !slices.Equal(l, []string{"log", "other", "t20", "x3", "y1", "y2", "z1", "z2"}) {
		t.Errorf("files %q", l)
	}
	if l, _ := fs.Names(h.f); len(l) != 11 {
		t.Errorf("files that were handed in: %q", l)
	}
}

func TestCompactCommitsNothing(t *testing.T) { // P19.5: the old files are there until the next commit
	h := small(t)
	free, _ := fs.Free(h.f)
	w := api.Work{Upper: h.v.Levels[0], Lower: h.v.Levels[1][:2]}
	g, x, err := compact.Compact(h.f, h.v, w, 0)
	if err != api.OK || g.Gen != h.f.Gen || !sameDir(g.Kept, h.f.Kept) || !bytes.Equal(g.Disk.Data, h.f.Disk.Data) || len(g.Disk.Wait) != len(g.Disk.Done) {
		t.Errorf("error %d, or other files are committed", err)
	}
	blocks := (x.Levels[1][0].Size + 127) / 128
	if n, _ := fs.Free(g); n != free-blocks {
		t.Errorf("%d blocks can be given, not %d", n, free-blocks)
	}
	gone := 0
	for _, m := range slices.Concat(w.Upper, w.Lower) {
		gone += (m.Size + 127) / 128
	}
	if n, _ := fs.Free(committed(t, g)); n != free-blocks+gone {
		t.Errorf("behind a commit %d blocks can be given, not %d", n, free-blocks+gone)
	}
}

// around is a house with a table of the keys d to m in a level, of which d and m are dead, and tables at and beside these keys in another level.
func around(t *testing.T, level, other int, low, high string) (house, api.Work) {
	h := empty(t, 90).with(t, level, "u", gone("d", 20), e("f", 20, "x"), gone("m", 21))
	if low != "" {
		h.v.Levels[other] = append(h.v.Levels[other], meta("o", low, high))
	}
	return h, api.Work{Level: level, Upper: h.v.Levels[level][:1]}
}

func TestCompactDropsDead(t *testing.T) { // P19.5: last: whether tables from two levels lower on meet the keys
	all := row(gone("d", 20), e("f", 20, "x"), gone("m", 21))
	for _, c := range []struct {
		low, high string
		meets     bool
	}{
		{"", "", false}, {"a", "c", false}, {"a", "d", true}, {"a", "e", true}, {"d", "d", true}, {"e", "e", true}, {"f", "l", true}, {"a", "z", true}, {"m", "m", true}, {"m", "z", true},
		{"m\x00", "z", false}, {"c", "c\xff", false}, {"n", "p", false}, {"l", "lz", true},
	} {
		for level := range 3 {
			for other := range 4 {
				if other == level || other == level+1 && c.meets {
					continue // such a version, or what follows of it, may not be; what counts is told by the others
				}
				h, w := around(t, level, other, c.low, c.high)
				want := all[1:2]
				if other >= level+2 && c.meets {
					want = all
				}
				g, x, err := compact.Compact(h.f, h.v, w, 30)
				name := fmt.Sprintf("level %d, one from %q to %q in level %d", level, c.low, c.high, other)
				if err != api.OK {
					t.Fatalf("%s: error %d", name, err)
				}
				at := slices.IndexFunc(x.Levels[level+1], func(m api.Meta) bool { return m.Name == "t7" })
				rows, _ := compact.Rows(g, x.Levels[level+1][at:at+1])
				if !slices.Equal(rows[0], want) {
					t.Errorf("%s: %s is left, not %s", name, short(rows[0]), short(want))
				}
			}
		}
	}
}

func TestCompactLastIsOfKeysThere(t *testing.T) { // P19.5: the keys count that are there, not those that the version tells
	h, w := around(t, 0, 2, "n", "p")
	h.v.Levels[0][0].High = "o"
	w.Upper = h.v.Levels[0]
	wantLevel(t, "told up to o", h, w, 30, row(e("f", 20, "x")))
	h, w = around(t, 0, 3, "e", "p")
	h.v.Levels[0][0].Low, h.v.Levels[0][0].High = "a", "a"
	w.Upper = h.v.Levels[0]
	wantLevel(t, "told to have a alone", h, w, 30, row(gone("d", 20), e("f", 20, "x"), gone("m", 21)))
	h, w = around(t, 1, 3, "q", "r")
	h = h.with(t, 2, "l", e("p", 1, ""), e("q", 1, ""))
	w.Lower = h.v.Levels[2]
	wantLevel(t, "the keys of Lower count too", h, w, 30, row(gone("d", 20), e("f", 20, "x"), gone("m", 21), e("p", 1, ""), e("q", 1, "")))
	h, w = around(t, 1, 3, "q\x00", "r")
	h = h.with(t, 2, "l", e("p", 1, ""), e("q", 1, ""))
	w.Lower = h.v.Levels[2]
	wantLevel(t, "just above", h, w, 30, row(e("f", 20, "x"), e("p", 1, ""), e("q", 1, "")))
	h, w = around(t, 0, 2, "b", "d")
	h = h.with(t, 0, "v", e("f", 22, "y"))
	w.Upper = h.v.Levels[0][1:]
	wantLevel(t, "a table of the level that is not the work's", h, w, 30, row(e("f", 22, "y")))
}

func TestCompactOfAllDead(t *testing.T) { // P19.5: nothing is left
	for level := range 3 {
		h := empty(t, 90).with(t, level, "u", gone("d", 20), gone("f", 20))
		w := api.Work{Level: level, Upper: h.v.Levels[level]}
		got := wantCompact(t, "all dead", h, w, 30)
		if n := len(slices.Concat(got.v.Levels...)); n != 0 || got.v.Next != 7 {
			t.Errorf("%d tables, Next %d", n, got.v.Next)
		}
		if l, _ := fs.Names(got.f); !slices.Equal(l, []string{"log", "other"}) {
			t.Errorf("files %q", l)
		}
		wantLevel(t, "seen ahead", h, w, 19, row(gone("d", 20), gone("f", 20)))
	}
}

func TestCompactOfNone(t *testing.T) { // P19.5: no tables: nothing changes
	for _, h := range []house{small(t), empty(t, 60)} {
		for level := range 3 {
			g, x, err := compact.Compact(h.f, h.v, api.Work{Level: level}, 0)
			if err != api.OK || !sameFs(g, h.f) || !sameVersion(x, h.v) {
				t.Errorf("level %d: error %d, or another version, or other files", level, err)
			}
		}
	}
}

func TestCompactIntoSeveral(t *testing.T) { // P19.5, P19.7: rows, apart, at their places
	h := empty(t, 900)
	l := runs(25, 15, 15, 20, 20)
	h = h.with(t, 1, "a", l[:25]...)
	h = h.with(t, 1, "b", l[25:55]...)
	h = h.with(t, 1, "c", l[55:75]...)
	h = h.with(t, 1, "d", e("010", 1, ""))
	h = h.with(t, 0, "e", l[75:]...)
	h = h.with(t, 0, "f", e("003", 99, "new"), gone("005", 98))
	h.v.Levels[1] = append(metas(meta("g", "!", "$")), h.v.Levels[1]...)
	w := api.Work{Upper: h.v.Levels[0], Lower: h.v.Levels[1][1:4]}
	got := wantCompact(t, "several", h, w, 0)
	var made []string
	for _, m := range got.v.Levels[1] {
		made = append(made, m.Name)
	}
	many := len(made) - 2
	if many < 3 || made[0] != "g" || made[1] != "t7" || made[many] != fmt.Sprint("t", 6+many) || made[many+1] != "d" || got.v.Next != 7+many {
		t.Errorf("%q, Next %d", made, got.v.Next)
	}
	rows, _ := compact.Rows(got.f, got.v.Levels[1][1:many+1])
	want := sorted(append(slices.Clone(l), e("003", 99, "new"), gone("005", 98)))
	if !slices.Equal(slices.Concat(rows...), want) {
		t.Errorf("%s, not %s", short(slices.Concat(rows...)), short(want))
	}
}

func TestCompactErrorsInOrder(t *testing.T) { // P19.5: the files', Swap's, Rows', merge's, Drop's, Build's
	h := small(t)
	far, top := h.at(lastNext+1), h.v.Levels[0]
	badWork := api.Work{Level: 1, Upper: top}
	work := api.Work{Upper: top, Lower: h.v.Levels[1]}
	for name, f := range badFs(t) {
		for _, v := range []api.Version{h.v, {}, far.v, of(apart("r", 33))} {
			for _, w := range []api.Work{work, badWork, {}, {Level: -1}} {
				wantNoCompact(t, "files: "+name, house{f, v}, w, 0, api.ErrBad)
				wantNoCompact(t, "files: "+name, house{f, v}, w, -1, api.ErrBad)
			}
		}
	}
	refusedVersions(func(name string, v api.Version, want api.Errno) {
		for _, w := range []api.Work{work, badWork, {}, {Level: 3}} {
			wantNoCompact(t, "the version: "+name, house{h.f, v}, w, -1, want)
		}
	})
	otherwise := top[0]
	otherwise.Many++
	for name, w := range map[string]api.Work{
		"another level's": badWork, "one twice": {Upper: metas(top[0], top[0])}, "in no level": {Upper: metas(meta("q", "a", "b"))}, "told otherwise": {Upper: metas(top[1], otherwise)},
		"zero": {Upper: metas(api.Meta{})}, "Lower of two levels lower": {Upper: top, Lower: h.v.Levels[2]}, "Lower twice": {Lower: append(slices.Clone(h.v.Levels[1]), h.v.Levels[1][2])},
	} {
		wantNoCompact(t, "the work: "+name, far, w, -1, api.ErrNone)
	}
	for _, level := range []int{-1, 3, 4, math.MinInt, math.MaxInt} {
		wantNoCompact(t, fmt.Sprint("level ", level), far, api.Work{Level: level, Upper: top}, -1, api.ErrArg)
		wantNoCompact(t, fmt.Sprint("level ", level), far, api.Work{Level: level}, -1, api.ErrArg)
	}
	for _, n := range []int{-1, math.MinInt, maxSeq + 1, math.MaxInt} {
		for _, w := range []api.Work{work, {}, {Level: 2, Lower: h.v.Levels[3]}} {
			wantNoCompact(t, fmt.Sprint("oldest ", n), h, w, n, api.ErrArg)
		}
	}
	for _, w := range []api.Work{work, {}, {Level: 1}, {Level: 2, Lower: h.v.Levels[3]}} {
		wantNoCompact(t, "Next is too far", far, w, 0, api.ErrArg)
		wantCompact(t, "Next is as far as can be", h.at(lastNext), w, 0)
	}
}

// lying is small, with one more table in a level, which no call can read, or otherwise as it is told.
func lying(t *testing.T, level int, m api.Meta) house {
	h := small(t)
	m.Low, m.High = "y", "z"
	return house{h.f, but(h.v, func(v *api.Version) { v.Levels[level] = append(v.Levels[level], m) })}
}

func TestCompactOfTablesThatAreNot(t *testing.T) { // P19.5: Rows' error, of Upper first
	no := api.Meta{Name: "no", Size: 9, Many: 1}
	long := api.Meta{Name: "other", Size: 129, Many: 1}
	bytes := api.Meta{Name: "other", Size: 128, Many: 1}
	for level := range 3 {
		for name, c := range map[string]struct {
			m    api.Meta
			want api.Errno
		}{"no file": {no, api.ErrNone}, "too long": {long, api.ErrArg}, "not a table": {bytes, api.ErrBad}} {
			h := lying(t, level, c.m)
			wantNoCompact(t, name, h, api.Work{Level: level, Upper: h.v.Levels[level]}, -1, c.want)
			wantNoCompact(t, name, h, api.Work{Level: level, Upper: h.v.Levels[level], Lower: h.v.Levels[level+1]}, -1, c.want)
			wantCompact(t, name+", but not the work's", h, api.Work{Level: level, Upper: h.v.Levels[level][:1], Lower: h.v.Levels[level+1]}, 0)
			h = lying(t, level+1, c.m)
			wantNoCompact(t, name+", in Lower", h, api.Work{Level: level, Upper: h.v.Levels[level], Lower: h.v.Levels[level+1]}, -1, c.want)
			h.v.Levels[level] = append(h.v.Levels[level], api.Meta{Name: "none", Size: 9, Many: 1, Low: "y", High: "z"})
			wantNoCompact(t, name+", in Lower, behind one that is not there", h, api.Work{Level: level, Upper: h.v.Levels[level], Lower: h.v.Levels[level+1]}, -1, api.ErrNone)
		}
	}
}

func TestCompactOfOneEntryTwice(t *testing.T) { // P19.5: merge.Rows' error, ahead of the number's
	h := empty(t, 90).with(t, 0, "a", e("k", 5, "x"), e("l", 9, "")).with(t, 0, "b", e("k", 6, ""), e("k", 5, "x")).at(lastNext + 1)
	wantNoCompact(t, "in Upper", h, api.Work{Upper: h.v.Levels[0]}, -1, api.ErrBad)
	h = empty(t, 90).with(t, 0, "a", e("k", 5, "x"), e("l", 9, "")).with(t, 1, "b", e("k", 6, ""), gone("k", 5)).at(lastNext + 1)
	wantNoCompact(t, "in Upper and Lower", h, api.Work{Upper: h.v.Levels[0], Lower: h.v.Levels[1]}, -1, api.ErrBad)
}

func TestCompactOfOneKeyTooLong(t *testing.T) { // P19.5: Build's error, of what is left alone
	h := empty(t, 300).at(lastNext+1).with(t, 0, "a", runs(20)...)
	var older []api.Entry
	for i, x := range runs(20) {
		x.Seq = 120 - i
		older = append(older, x)
	}
	h = h.with(t, 0, "b", older...)
	w := api.Work{Upper: h.v.Levels[0]}
	wantNoCompact(t, "40 of a key", h, w, 0, api.ErrText)
	wantCompact(t, "the newest alone", h.at(7), w, maxSeq)
	wantNoCompact(t, "a number that may not be", h, w, -1, api.ErrArg)
}

func TestCompactWithoutRoom(t *testing.T) { // P19.5: Build's error, ahead of the second Swap's
	h := small(t)
	w := api.Work{Upper: h.v.Levels[0], Lower: h.v.Levels[1][:2]}
	wantCompact(t, "there is room", h, w, 0)
	there := house{stored(t, h.f, "t20", nil), h.v}
	wantNoCompact(t, "there is a file", there, w, 0, api.ErrThere)
	there.v = but(h.v, func(v *api.Version) { v.Log = "t20" })
	wantNoCompact(t, "there is a file, the log's", there, w, 0, api.ErrThere)
	taken := house{h.f, there.v}
	wantNoCompact(t, "the log's name", taken, w, 0, api.ErrBad)
	free, _ := fs.Free(h.f)
	taken.f = ok[api.Fs](t)(fs.Create(h.f, "much", free))
	wantNoCompact(t, "no room", taken, w, 0, api.ErrRoom)
	taken.f = busy(h.f, maxActs, 0)
	wantNoCompact(t, "no act", taken, w, 0, api.ErrFull)
}

func TestCompactToVersionThatMayNotBe(t *testing.T) { // P19.5: version.Swap's error of the new tables
	l := runs(20, 30, 10)
	h := empty(t, 600).with(t, 0, "a", l[20:50]...).with(t, 0, "b", append(l[:20:20], l[50:]...)...)
	w := api.Work{Upper: h.v.Levels[0]} // two tables, of which three become
	h.v.Levels[3] = apart("r", 29)
	wantCompact(t, "32 tables", h, w, 0)
	h.v.Levels[3] = apart("r", 30)
	wantNoCompact(t, "33 tables", h, w, 0, api.ErrMany)
	wantCompact(t, "fewer are left", h, w, 30)
	h = empty(t, 600).with(t, 0, "a", runs(30)...).with(t, 0, "b", runs(0, 30)...)
	w = api.Work{Upper: h.v.Levels[0][:1]}
	h.v.Levels[1] = metas(meta("n", "000", "0000"))
	wantNoCompact(t, "a key of the next level's", h, w, 0, api.ErrBad)
	h.v.Levels[1] = metas(meta("n", "001", "002"))
	wantCompact(t, "beside the next level's", h, w, 0)
	h.v.Levels[1] = nil
	for level := range 4 {
		x := house{h.f, but(h.v, func(v *api.Version) { v.Levels[level] = append(v.Levels[level], meta("t7", "!", "#")) })}
		wantNoCompact(t, "the name is another table's", x, w, 0, api.ErrBad)
	}
	swapped := house{h.f, but(h.v, func(v *api.Version) { v.Log = "t8" })}
	wantCompact(t, "the next name is the log's", swapped, w, 0)
}

func TestCompactOfAny(t *testing.T) { // P19.5: held against a plain reading
	done := 0
	for seed := range int64(300) {
		r := rand.New(rand.NewSource(seed))
		h := anyHouse(t, r)
		for range 5 {
			w, oldest := anyWork(r, h.v), r.Intn(350)
			want, wantErr := plainCompact(h, w, oldest)
			g, x, err := compact.Compact(h.f, h.v, w, oldest)
			if err != wantErr || err == api.OK && (!sameVersion(x, want.v) || !sameFs(g, want.f)) {
				t.Fatalf("seed %d: error %d, not %d, or another answer", seed, err, wantErr)
			}
			if err == api.OK {
				h = house{g, x}
				wantTold(t, fmt.Sprint("seed ", seed), h)
				done++
			}
		}
	}
	if done < 500 {
		t.Errorf("%d are done only", done)
	}
}
