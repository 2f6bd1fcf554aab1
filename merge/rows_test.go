package merge_test

import (
	"math/rand"
	"slices"
	"testing"

	"millhand/api"
	"millhand/merge"
)

// orders visits rows in all their orders.
func orders(l [][]api.Entry, visit func(l [][]api.Entry)) {
	var turn func(done, rest [][]api.Entry)
	turn = func(done, rest [][]api.Entry) {
		if len(rest) == 0 {
			visit(done)
		}
		for i := range rest {
			turn(append(slices.Clone(done), rest[i]), slices.Delete(slices.Clone(rest), i, i+1))
		}
	}
	turn(nil, l)
}

func TestRows(t *testing.T) { // P15.2
	wantRows(t, "example", rows(row(e("a", 3, "x"), e("b", 2, "y")), row(e("a", 1, "w"))), row(e("a", 3, "x"), e("a", 1, "w"), e("b", 2, "y")), api.OK)
	wantRows(t, "example", rows(row(e("a", 3, "x")), row(e("a", 3, "x"))), nil, api.ErrBad)
	wantRows(t, "none", nil, nil, api.OK)
	wantRows(t, "none", rows(), nil, api.OK)
	wantRows(t, "one row of none", rows(nil), nil, api.OK)
	wantRows(t, "rows of none", rows(nil, row(), nil, nil, row()), nil, api.OK)
	for name, l := range good() {
		wantRows(t, name, rows(l), l, api.OK)
		wantRows(t, name, rows(nil, l), l, api.OK)
		wantRows(t, name, rows(l, nil, nil), l, api.OK)
		for at := range l { // cut, each part a row
			wantRows(t, name, rows(l[:at], l[at:]), l, api.OK)
			wantRows(t, name, rows(l[at:], l[:at]), l, api.OK)
		}
		var ones [][]api.Entry
		for _, x := range l {
			ones = append(ones, row(x))
		}
		wantRows(t, name, ones, l, api.OK)
		slices.Reverse(ones)
		wantRows(t, name, ones, l, api.OK)
	}
}

func TestAllRowsOfFew(t *testing.T) { // P15.2: each of five entries in each of three rows or not, some of them in several ones
	l := row(e("a", 2, "x"), gone("a", 1), e("ab", 2, ""), e("b", 7, "y"), gone("b", 2))
	for n := range 1 << 15 {
		three := make([][]api.Entry, 3)
		for i := range 15 {
			if n>>i&1 == 1 {
				three[i%3] = append(three[i%3], l[i/3])
			}
		}
		want, err := plainRows(three)
		wantRows(t, "all rows", three, want, err)
	}
}

func TestRowsAnyMany(t *testing.T) { // P15.2: as many rows as you like, of entries dealt out
	for seed := range int64(300) {
		r := rand.New(rand.NewSource(seed))
		l := someRow(r, 60)
		for _, n := range []int{1, 2, 3, 1 + r.Intn(20), 64, 65} {
			wantRows(t, "dealt", dealt(r, l, n), l, api.OK)
		}
		others := [][]api.Entry{someRow(r, 4), someRow(r, 4), someRow(r, 4), someRow(r, 4)} // which may meet
		want, err := plainRows(others)
		wantRows(t, "others", others, want, err)
	}
}

func TestRowsTwice(t *testing.T) { // P15.2: one Key with one Seq in any two of the rows, whatever else stands there
	l := mixed(40)
	for many := 2; many < 8; many++ {
		for i := range many {
			for j := range i {
				for at, x := range l {
					same := row(x, e(x.Key, x.Seq, "other"), gone(x.Key, x.Seq))[at%3]
					r := rand.New(rand.NewSource(int64(at)))
					some := dealt(r, slices.Delete(slices.Clone(l), at, at+1), many)
					some[i], some[j] = sorted(append(some[i], x)), sorted(append(some[j], same))
					wantRows(t, "twice", some, nil, api.ErrBad)
				}
			}
		}
	}
	one := row(e("a", 1, ""))
	wantRows(t, "a key of one number with another one", rows(one, row(e("a", 2, ""))), row(e("a", 2, ""), e("a", 1, "")), api.OK)
	wantRows(t, "a number of one key with another one", rows(row(e("b", 1, "")), one), row(e("a", 1, ""), e("b", 1, "")), api.OK)
}

func TestRowsRefused(t *testing.T) { // P15.2: the first row's error
	some := row(e("y", 1, ""))
	refused(func(name string, l []api.Entry, want api.Errno) {
		for _, x := range [][][]api.Entry{rows(l), rows(l, some), rows(some, l), rows(nil, l, nil), rows(some, some, l), rows(l, l)} {
			wantRows(t, name, x, nil, want)
		}
	})
	long := tooMany()
	for badName, b := range bad() {
		for manyName, m := range long {
			wantRows(t, badName+" ahead of "+manyName, rows(some, b, m), nil, api.ErrBad)
			wantRows(t, manyName+" ahead of "+badName, rows(some, m, b), nil, api.ErrMany)
		}
	}
}

func TestRowsHowMany(t *testing.T) { // P15.2, MaxEntries: of all rows together, at it and one more
	most := mixed(65536)
	more := row(e("z", 1, ""))
	wantRows(t, "65,536 in one", rows(most), most, api.OK)
	wantRows(t, "65,536, and one", rows(most, more), nil, api.ErrMany)
	wantRows(t, "one, and 65,536", rows(more, most), nil, api.ErrMany)
	r := rand.New(rand.NewSource(1))
	for _, n := range []int{2, 3, 7, 1000} {
		some := dealt(r, most, n)
		wantRows(t, "65,536, dealt", some, most, api.OK)
		wantRows(t, "65,537, dealt", append(some, more), nil, api.ErrMany)
	}
	var ones [][]api.Entry
	for i := range most {
		ones = append(ones, most[i:i+1])
	}
	r.Shuffle(len(ones), func(i, j int) { ones[i], ones[j] = ones[j], ones[i] })
	wantRows(t, "65,536 rows of one", ones, most, api.OK)
	wantRows(t, "65,537 rows of one", append(ones, more), nil, api.ErrMany)
	wantRows(t, "a million rows of none", append(make([][]api.Entry, 1<<20), more, nil), more, api.OK)
	wantRows(t, "one row again and again", slices.Repeat(rows(most), 50), nil, api.ErrMany)
}

func TestRowsOrderOfErrors(t *testing.T) { // P15.2: a row's error ahead of too many in all, and these ahead of one twice
	most, half := keyed(65536), newest(32768)
	wantRows(t, "too many, then a bad one", rows(most, most, row(api.Entry{})), nil, api.ErrBad)
	wantRows(t, "too many, then a row that has too many", rows(most, most, newest(65537)), nil, api.ErrMany)
	wantRows(t, "too many, all of them twice", rows(most, most), nil, api.ErrMany)
	wantRows(t, "too many, one twice", rows(half, most[:32768], half[:1]), nil, api.ErrMany)
	wantRows(t, "not too many, all of them twice", rows(half, half), nil, api.ErrBad)
	wantRows(t, "not too many, one twice", rows(half[1:], most[:32768], half[32767:]), nil, api.ErrBad)
}

// newestOf is, of each key, the newest of some entries, in order.
func newestOf(l []api.Entry) []api.Entry {
	best := map[string]api.Entry{}
	for _, x := range l {
		if was, is := best[x.Key]; !is || x.Seq > was.Seq {
			best[x.Key] = x
		}
	}
	var out []api.Entry
	for _, x := range best {
		out = append(out, x)
	}
	return sorted(out)
}

func TestSeenOfMerged(t *testing.T) { // P15.6
	for seed := range int64(200) {
		r := rand.New(rand.NewSource(seed))
		some := dealt(r, someRow(r, 30), 1+r.Intn(4))
		first, err := merge.Rows(some)
		if err != api.OK {
			t.Fatalf("seed %d: error %d", seed, err)
		}
		orders(some, func(l [][]api.Entry) { wantRows(t, "another order", l, first, api.OK) })
		for seq := range 14 {
			var each []api.Entry
			for _, l := range some {
				at, err := merge.At(l, seq)
				if err != api.OK {
					t.Fatalf("seed %d: error %d", seed, err)
				}
				each = append(each, at...)
			}
			want := newestOf(each)
			live := slices.DeleteFunc(slices.Clone(want), func(x api.Entry) bool { return x.Dead })
			wantSeen(t, "merged", first, seq, want, live)
		}
	}
}

// shows wants two rows to show the same at all numbers from one on: Live, and At, if dead.
func shows(t *testing.T, was, is []api.Entry, from int, dead bool) {
	t.Helper()
	for _, seq := range append([]int{maxSeq}, 0, 1, 2, 3, 4, 5) {
		if seq < from {
			continue
		}
		x, err1 := merge.Live(was, seq)
		y, err2 := merge.Live(is, seq)
		if err1 != api.OK || err2 != api.OK || !slices.Equal(x, y) {
			t.Errorf("%s and %s: Live %d: %s and %s", short(was), short(is), seq, short(x), short(y))
		}
		x, err1 = merge.At(was, seq)
		y, err2 = merge.At(is, seq)
		if dead && (err1 != api.OK || err2 != api.OK || !slices.Equal(x, y)) {
			t.Errorf("%s and %s: At %d: %s and %s", short(was), short(is), seq, short(x), short(y))
		}
	}
}

func TestDropShowsTheSame(t *testing.T) { // P15.6: behind one Drop and behind two
	drop := func(l []api.Entry, oldest int, last bool) []api.Entry {
		out, err := merge.Drop(l, oldest, last)
		if err != api.OK || merge.Check(out) != api.OK {
			t.Fatalf("%s: Drop %d: error %d", short(l), oldest, err)
		}
		return out
	}
	allRows(func(l []api.Entry) {
		for n := range 100 { // two numbers from 0 to 4, two bools
			first, second, last, lastToo := n%5, n/5%5, n/25%2 == 1, n/50 == 1
			one := drop(l, first, last)
			shows(t, l, one, first, !last)
			two := drop(one, second, lastToo)
			shows(t, one, two, second, !lastToo)
			shows(t, l, two, max(first, second), !last && !lastToo)
			if again := drop(one, first, last); !slices.Equal(again, one) {
				t.Errorf("%s: Drop %d once: %s; twice: %s", short(l), first, short(one), short(again))
			}
		}
	})
}
