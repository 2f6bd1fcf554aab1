package compact_test

import (
	"fmt"
	"math/rand"
	"slices"
	"testing"

	"millhand/api"
	"millhand/compact"
	"millhand/table"
)

// wantCut wants rows of so many entries each, that are the entries one behind the other.
func wantCut(t *testing.T, name string, l []api.Entry, many ...int) {
	t.Helper()
	rows, err := compact.Cut(l)
	var got []int
	for _, x := range rows {
		got = append(got, len(x))
	}
	if err != api.OK || !slices.Equal(got, many) || !slices.Equal(slices.Concat(rows...), l) {
		t.Errorf("%s: rows of %v, error %d, not of %v", name, got, err, many)
	}
}

func wantNoCut(t *testing.T, name string, l []api.Entry, want api.Errno) {
	t.Helper()
	rows, err := compact.Cut(l)
	wantAlone(t, name, err, want, rows)
}

func TestCutExamples(t *testing.T) { // P19.1
	wantCut(t, "none", nil)
	wantCut(t, "none, not nil", row())
	wantCut(t, "three small ones", row(e("a", 2, "x"), gone("a", 1), e("b", 3, "y")), 3)
	wantNoCut(t, "40 of one key", runs(40), api.ErrText)
}

func TestCutOfNoRow(t *testing.T) { // P19.1: merge.Check's error, ahead of the texts'
	refusedEntries(func(name string, l []api.Entry, want api.Errno) { wantNoCut(t, name, l, want) })
}

func TestCutIntoTwo(t *testing.T) { // P19.1: where they are cut in two
	for _, c := range []struct {
		runs []int
		want []int
	}{
		{[]int{20, 20}, []int{20, 20}},           // just at the half
		{[]int{19, 21}, []int{19, 21}},           // none at it or behind: the one below
		{[]int{21, 19}, []int{21, 19}},           // behind the half
		{[]int{12, 28}, []int{12, 28}},           // far below
		{[]int{28, 12}, []int{28, 12}},           // far behind
		{[]int{10, 10, 10, 10}, []int{20, 20}},   // the half itself
		{[]int{10, 9, 2, 19}, []int{21, 19}},     // not below it, though that is as near
		{[]int{10, 9, 9, 12}, []int{28, 12}},     // not below it, though that is nearer
		{[]int{10, 5, 25}, []int{15, 25}},        // the greatest below
		{[]int{5, 5, 5, 25}, []int{15, 25}},      // the greatest of several
		{[]int{10, 10, 5, 5, 10}, []int{20, 20}}, // the least of several
		{[]int{10, 13, 5, 5, 7}, []int{23, 17}},  // the least of several behind it
		{[]int{20, 21}, []int{20, 21}},           // 41: rounded down
		{[]int{21, 20}, []int{21, 20}},
		{[]int{19, 1, 21}, []int{20, 21}},
		{[]int{19, 2, 20}, []int{21, 20}},
	} {
		wantCut(t, fmt.Sprint(c.runs), runs(c.runs...), c.want...)
	}
	wantCut(t, "each part likewise", runs(20, 20, 20, 20), 20, 20, 20, 20)
	wantCut(t, "the first part, and not the second", runs(25, 15, 15), 25, 15, 15)
	wantCut(t, "the second part, and not the first", runs(15, 5, 25, 20), 20, 25, 20)
	wantCut(t, "far behind, then below", runs(5, 28, 7), 5, 28, 7)
}

func TestCutOfManyEntries(t *testing.T) { // P19.1: table.Build takes 1,024 at most
	for many, want := range map[int][]int{1: {1}, 1023: {1023}, 1024: {1024}, 1025: {512, 513}, 1026: {513, 513}, 2048: {1024, 1024}, 2049: {1024, 512, 513}, 2050: {512, 513, 512, 513}} {
		wantCut(t, fmt.Sprint(many), keyed(keys(many), 1, 0), want...)
	}
	wantCut(t, "1,024 of one key", keyed([]string{"k"}, 1024, 0), 1024)
	wantNoCut(t, "1,025 of one key", keyed([]string{"k"}, 1025, 0), api.ErrText)
	wantCut(t, "1,024 of one key, and one", append(keyed([]string{"k"}, 1024, 0), e("l", 1, "")), 1024, 1)
	wantCut(t, "one, and 1,024 of one key", append(row(e("a", 1, "")), keyed([]string{"k"}, 1024, 0)...), 1, 1024)
	wantCut(t, "65,536", keyed(keys(65536), 1, 0), slices.Repeat([]int{1024}, 64)...)
	wantCut(t, "65,536 of 64 keys", keyed(keys(64), 1024, 0), slices.Repeat([]int{1024}, 64)...)
	wantNoCut(t, "65,536 of one key", keyed([]string{"k"}, 65536, 0), api.ErrText)
}

func TestCutOfManyBytes(t *testing.T) { // P19.1: table.Build takes 16,384 bytes at most
	l := keyed(keys(32), 1, 512)
	for i := 0; ; i++ {
		b, _, err := table.Build(l)
		if err == api.OK && len(b) == 16384 {
			break
		}
		if i > 2000 {
			t.Fatalf("no table of just as many bytes as there can be: %d", len(b))
		}
		l[i%32].Value = l[i%32].Value[1:]
	}
	wantCut(t, "as many bytes as there can be", l, 32)
	for i := range l {
		more := slices.Clone(l)
		more[i].Value += "t"
		if _, _, err := table.Build(more); err == api.ErrText {
			wantCut(t, "one byte more", more, 16, 16)
		} else {
			t.Errorf("a byte more for the entry %d: there is a table", i)
		}
	}
	for i := range l {
		l[i].Key, l[i].Seq = "00000", 32-i
	}
	wantCut(t, "of one key", l, 32)
	for i := range l {
		l[i].Value = text(512)
	}
	wantNoCut(t, "of one key, more bytes", l, api.ErrText)
}

func TestCutOfOneKeyTooLong(t *testing.T) { // P19.1: ErrText wherever they stand
	for _, many := range [][]int{{40}, {40, 1}, {1, 40}, {10, 40, 10}, {20, 20, 40}, {40, 20, 20}, {33}, {1, 1, 1, 35, 1, 1}, {20, 20, 20, 20, 20, 20, 20, 33}} {
		wantNoCut(t, fmt.Sprint(many), runs(many...), api.ErrText)
	}
	wantNoCut(t, "two keys", runs(40, 40), api.ErrText)
	wantNoCut(t, "among very many", append(keyed(keys(5000), 1, 0), keyed([]string{"a"}, 1025, 0)...), api.ErrText)
	wantNoCut(t, "ahead of very many", append(keyed([]string{"!"}, 1025, 0), keyed(keys(5000), 1, 0)...), api.ErrText)
}

func TestCutOfAny(t *testing.T) { // P19.1, P19.7: held against a plain reading
	refused := 0
	for seed := range int64(1500) {
		r := rand.New(rand.NewSource(seed))
		l := anyRow(r, 1+r.Intn(600), 1+r.Intn(1+r.Intn(40)), 100+r.Intn(413), 1+r.Intn(1000))
		if seed%10 == 0 {
			l = anyRow(r, 6000, 1+r.Intn(900), r.Intn(20), 1+r.Intn(3000))
		}
		want, wantErr := plainCut(l)
		rows, err := compact.Cut(l)
		if err != wantErr || !sameRows(rows, want) {
			t.Fatalf("seed %d, %d entries: %d rows, error %d, not %d, error %d", seed, len(l), len(rows), err, len(want), wantErr)
		}
		if err != api.OK {
			refused++
			continue
		}
		wantWhole(t, fmt.Sprint("seed ", seed), l, rows)
	}
	if refused < 50 || refused > 800 {
		t.Errorf("%d of 1,500 refused", refused)
	}
}

// wantWhole wants rows to be the entries, one behind the other, no key in two of them, each of which has a table.
func wantWhole(t *testing.T, name string, l []api.Entry, rows [][]api.Entry) {
	t.Helper()
	if !slices.Equal(slices.Concat(rows...), l) {
		t.Errorf("%s: the rows are not what was cut", name)
	}
	last := ""
	for _, x := range rows {
		if _, _, err := table.Build(x); err != api.OK {
			t.Errorf("%s: a row without a table, error %d", name, err)
		}
		if x[0].Key <= last {
			t.Errorf("%s: a key in two rows", name)
		}
		last = x[len(x)-1].Key
	}
}

func TestCutWholeRuns(t *testing.T) { // P19.1, P19.7: all lists of up to four keys, of which each has some of these numbers of entries
	some := []int{1, 7, 14, 25, 28}
	var grow func(many []int)
	grow = func(many []int) {
		l := runs(many...)
		want, wantErr := plainCut(l)
		rows, err := compact.Cut(l)
		if err != wantErr || !sameRows(rows, want) {
			t.Errorf("%v: %d rows, error %d, not %d, error %d", many, len(rows), err, len(want), wantErr)
		}
		wantWhole(t, fmt.Sprint(many), l, rows)
		if len(many) == 4 {
			return
		}
		for _, n := range some {
			grow(append(slices.Clone(many), n))
		}
	}
	grow(nil)
}
