package compact_test

import (
	"bytes"
	"fmt"
	"math"
	"math/rand"
	"slices"
	"testing"

	"millhand/api"
	"millhand/compact"
	"millhand/fs"
)

// wantFlush wants just what the chapter's words make.
func wantFlush(t *testing.T, name string, h house, m api.Mem, oldest int) house {
	t.Helper()
	want, wantErr := plainFlush(h, m, oldest)
	g, w, err := compact.Flush(h.f, h.v, m, oldest)
	if err != api.OK || wantErr != api.OK || !sameVersion(w, want.v) || !sameFs(g, want.f) {
		t.Errorf("%s: error %d, not %d; %v, not %v; or other files", name, err, wantErr, w, want.v)
	}
	return house{g, w}
}

func wantNoFlush(t *testing.T, name string, h house, m api.Mem, oldest int, want api.Errno) {
	t.Helper()
	g, w, err := compact.Flush(h.f, h.v, m, oldest)
	wantAlone(t, name, err, want, g, w)
}

// mems are entries in memory that can be flushed.
func mems() map[string]api.Mem {
	return map[string]api.Mem{
		"none":          {},
		"none, not nil": mem(row()...),
		"one":           mem(e("a", 31, "x")),
		"one dead":      mem(gone("a", 31)),
		"of one key":    mem(e("a", 34, "x"), gone("a", 32), e("a", 31, "")),
		"older at the end": mem(gone("a", 39), e("b", 38, ""), gone("b", 37), e("c", 35, "x"), e("d", 40, ""), gone("d", 36),
			e("d", 34, ""), e("e", 31, "")),
		"512":        mem(keyed(keys(512), 1, 3)...),
		"two tables": mem(runs(20, 20)...),
		"the newest": mem(e("a", maxSeq, "x")),
	}
}

func TestFlush(t *testing.T) { // P19.4
	for name, m := range mems() {
		for _, oldest := range []int{0, 1, 19, 20, 30, 31, 32, 33, 36, 37, 38, 40, 41, maxSeq} {
			what := fmt.Sprintf("%s, oldest %d", name, oldest)
			h := wantFlush(t, what, empty(t, 300), m, oldest)
			wantTold(t, what, h)
		}
		for _, h := range []house{small(t), small(t).at(lastNext), small(t).at(1)} {
			h.v.Seq = 37
			wantTold(t, name, wantFlush(t, name+", to others", h, m, 33))
		}
	}
}

func TestFlushByHand(t *testing.T) { // P19.4: what is left, the last ones of level 0, the numbers
	h := small(t)
	m := mem(gone("a", 39), e("b", 38, "2"), gone("b", 37), e("b", 36, "1"), e("c", 35, "x"), gone("c", 34))
	for _, c := range []struct {
		oldest int
		want   []api.Entry
	}{
		{39, row(gone("a", 39), e("b", 38, "2"), e("c", 35, "x"))},
		{37, row(gone("a", 39), e("b", 38, "2"), gone("b", 37), e("c", 35, "x"))},
		{36, row(gone("a", 39), e("b", 38, "2"), gone("b", 37), e("b", 36, "1"), e("c", 35, "x"))},
		{34, m.Entries}, {0, m.Entries},
	} {
		g, w, err := compact.Flush(h.f, h.v, m, c.oldest)
		if err != api.OK || len(w.Levels[0]) != 3 || w.Next != 21 || w.Seq != 39 || w.Log != "log" {
			t.Fatalf("oldest %d: %v, error %d", c.oldest, w, err)
		}
		last := w.Levels[0][2]
		if last.Name != "t20" || last.Low != "a" || last.High != "c" || last.Many != len(c.want) {
			t.Errorf("oldest %d: %v", c.oldest, last)
		}
		if rows, err := compact.Rows(g, metas(last)); err != api.OK || !slices.Equal(rows[0], c.want) {
			t.Errorf("oldest %d: %v, error %d", c.oldest, rows, err)
		}
		for i, l := range w.Levels {
			if !slices.Equal(l[:len(h.v.Levels[i])], h.v.Levels[i]) || i > 0 && len(l) != len(h.v.Levels[i]) {
				t.Errorf("oldest %d: level %d is another one", c.oldest, i)
			}
		}
	}
}

func TestFlushOfNone(t *testing.T) { // P19.4: nothing in memory changes nothing
	h := small(t)
	for _, m := range []api.Mem{{}, mem(row()...)} {
		for _, oldest := range []int{0, 7, maxSeq} {
			if g, w, err := compact.Flush(h.f, h.v, m, oldest); err != api.OK || !sameFs(g, h.f) || !sameVersion(w, h.v) {
				t.Errorf("oldest %d: error %d, or another version, or other files", oldest, err)
			}
		}
	}
}

func TestFlushSeq(t *testing.T) { // P19.4: the greatest of it and all Seqs of m, wherever they stand
	for seq, want := range map[int]int{0: 9, 8: 9, 9: 9, 10: 10, maxSeq: maxSeq} {
		for _, l := range [][]api.Entry{
			row(e("a", 9, ""), e("b", 1, ""), e("c", 2, "")), row(e("a", 1, ""), e("b", 9, ""), e("b", 3, ""), e("c", 2, "")), row(e("a", 1, ""), e("c", 9, "")),
		} {
			h := empty(t, 100)
			h.v.Seq = seq
			if got := wantFlush(t, fmt.Sprint("Seq ", seq), h, mem(l...), 4); got.v.Seq != want {
				t.Errorf("Seq %d: it becomes %d, not %d", seq, got.v.Seq, want)
			}
		}
	}
}

func TestFlushWaits(t *testing.T) { // P19.4: nothing is committed
	h := small(t)
	g, _, err := compact.Flush(h.f, h.v, mem(runs(20, 20)...), 0)
	if err != api.OK || g.Gen != h.f.Gen || !sameDir(g.Kept, h.f.Kept) || !bytes.Equal(g.Disk.Data, h.f.Disk.Data) {
		t.Errorf("error %d, or other files are committed", err)
	}
	if len(g.Disk.Wait) != len(g.Disk.Done) || len(g.Disk.Wait) == 0 {
		t.Errorf("%d writes wait, %d acts were done", len(g.Disk.Wait), len(g.Disk.Done))
	}
}

func TestFlushErrorsInOrder(t *testing.T) { // P19.4: the files', the version's, memory's, Drop's, Build's, version.Add's
	good, badMem, seqs := mem(e("a", 1, "x")), mem(e("", 1, "x")), []int{-1, math.MinInt, maxSeq + 1, math.MaxInt}
	h := small(t)
	far := h.at(lastNext + 1)
	for name, f := range badFs(t) {
		for _, v := range []api.Version{h.v, {}, far.v, of(apart("r", 33))} {
			for _, m := range []api.Mem{good, badMem, {}} {
				wantNoFlush(t, "files: "+name, house{f, v}, m, 1, api.ErrBad)
				wantNoFlush(t, "files: "+name, house{f, v}, m, -1, api.ErrBad)
			}
		}
	}
	refusedVersions(func(name string, v api.Version, want api.Errno) {
		for _, m := range []api.Mem{good, badMem, {}, mem(keyed(keys(513), 1, 0)...)} {
			wantNoFlush(t, "the version: "+name, house{h.f, v}, m, 1, want)
			wantNoFlush(t, "the version: "+name, house{h.f, v}, m, -1, want)
		}
	})
	refusedMems(func(name string, m api.Mem, want api.Errno) {
		for _, x := range []house{h, far} {
			wantNoFlush(t, "memory: "+name, x, m, 1, want)
			wantNoFlush(t, "memory: "+name, x, m, maxSeq+1, want)
		}
	})
	for _, n := range seqs {
		for name, m := range mems() {
			wantNoFlush(t, fmt.Sprint(name, ", oldest ", n), h, m, n, api.ErrArg)
		}
		wantNoFlush(t, fmt.Sprint("a key too long, oldest ", n), far, mem(runs(40)...), n, api.ErrArg)
	}
	for _, next := range []int{lastNext + 1, maxSeq} {
		wantNoFlush(t, "a key too long", h.at(next), mem(runs(20, 40)...), 0, api.ErrText)
		for name, m := range mems() {
			wantNoFlush(t, fmt.Sprint(name, ", Next ", next), h.at(next), m, 0, api.ErrArg)
		}
	}
}

func TestFlushOfWhatIsLeft(t *testing.T) { // P19.4: Cut's error is of what is left alone
	h := empty(t, 100)
	wantNoFlush(t, "40 of a key", h, mem(runs(40)...), 0, api.ErrText)
	wantNoFlush(t, "still 34", h, mem(runs(40)...), 7, api.ErrText)
	wantFlush(t, "the newest alone", h, mem(runs(40)...), 40)
	wantFlush(t, "the ten newest", h, mem(runs(40)...), 31)
}

func TestFlushWithoutRoom(t *testing.T) { // P19.4: Build's error, ahead of version.Add's
	h := empty(t, 300)
	two := mem(runs(20, 20)...)
	there := house{stored(t, h.f, "t8", nil), h.v}
	wantNoFlush(t, "there is a file", there, two, 0, api.ErrThere)
	full := house{there.f, but(h.v, func(v *api.Version) { v.Levels[3] = apart("r", 32) })}
	wantNoFlush(t, "there is a file, and there are 32 tables", full, two, 0, api.ErrThere)
	wantNoFlush(t, "no room", house{bare(t, 60), full.v}, two, 0, api.ErrRoom)
	wantNoFlush(t, "no act", house{busy(h.f, maxActs, 0), full.v}, mem(e("a", 1, "")), 0, api.ErrFull)
}

func TestFlushToFullVersion(t *testing.T) { // P19.4: version.Add's error, table by table
	one, two := mem(e("a", 1, "x")), mem(runs(20, 20)...)
	for level := range 4 {
		h := empty(t, 300)
		h.v.Levels[level] = apart("r", 32)
		wantNoFlush(t, "32 tables", h, one, 0, api.ErrMany)
		wantFlush(t, "32 tables, and none", h, api.Mem{}, 0)
		h.v.Levels[level] = apart("r", 31)
		wantFlush(t, "31 tables", h, one, 0)
		wantNoFlush(t, "31 tables, and two", h, two, 0, api.ErrMany)
		h.v.Levels[level] = apart("r", 30)
		wantFlush(t, "30 tables, and two", h, two, 0)
	}
	for level := range 4 {
		h := empty(t, 300)
		h.v.Levels[level] = metas(meta("t8", "a", "b"))
		wantFlush(t, "the next name is another table's", h, one, 0)
		wantNoFlush(t, "the second name is another table's", h, two, 0, api.ErrBad)
		h.v.Next = 8
		wantNoFlush(t, "the name is another table's", h, one, 0, api.ErrBad)
		h.v.Levels[level] = append(apart("r", 30), meta("t8", "a", "b"))
		if level > 0 {
			h.v.Levels[level][30] = meta("t8", "x", "y")
		}
		wantNoFlush(t, "31 tables, the first name is another one's", h, two, 0, api.ErrBad)
		h.v.Next = 7
		wantNoFlush(t, "31 tables, the second name is another one's", h, two, 0, api.ErrMany)
	}
	h := empty(t, 300)
	h.v.Log = "t7"
	wantNoFlush(t, "the name is the log's", h, one, 0, api.ErrBad)
	wantFlush(t, "the name is the log's, and none", h, api.Mem{}, 0)
	h.v.Log = "t9"
	wantFlush(t, "the name is not yet the log's", h, two, 0)
}

func TestFlushOfAny(t *testing.T) { // P19.4: held against a plain reading
	for seed := range int64(400) {
		r := rand.New(rand.NewSource(seed))
		h := small(t)
		m := mem(anyRow(r, 1+r.Intn(100), 1+r.Intn(30), r.Intn(513), 1+r.Intn(60))...)
		oldest := r.Intn(70)
		h.v.Seq = r.Intn(80)
		want, wantErr := plainFlush(h, m, oldest)
		g, w, err := compact.Flush(h.f, h.v, m, oldest)
		if err != wantErr || err == api.OK && (!sameVersion(w, want.v) || !sameFs(g, want.f)) {
			t.Fatalf("seed %d: error %d, not %d, or another answer", seed, err, wantErr)
		}
		if err == api.OK {
			wantTold(t, fmt.Sprint("seed ", seed), house{g, w})
		}
	}
}

// wantTold wants a house whose files may be, and each table of whose version is as it is told.
func wantTold(t *testing.T, name string, h house) {
	t.Helper()
	if fs.Check(h.f) != api.OK {
		t.Errorf("%s: files that may not be", name)
	}
	for i, l := range h.v.Levels {
		rows, err := compact.Rows(h.f, l)
		if err != api.OK {
			t.Fatalf("%s: level %d can't be read: error %d", name, i, err)
		}
		for j, x := range rows {
			if m := l[j]; m.Many != len(x) || m.Low != x[0].Key || m.High != x[len(x)-1].Key {
				t.Errorf("%s: %s is not as it is told", name, m.Name)
			}
		}
	}
}
