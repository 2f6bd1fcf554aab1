package merge_test

import (
	"math"
	"math/rand"
	"slices"
	"strconv"
	"strings"
	"testing"

	"millhand/api"
	"millhand/merge"
)

const maxSeq = 1 << 40

func e(key string, seq int, value string) api.Entry {
	return api.Entry{Key: key, Seq: seq, Value: value}
}
func gone(key string, seq int) api.Entry { return api.Entry{Key: key, Seq: seq, Dead: true} }
func text(many int) string               { return strings.Repeat("t", many) }
func row(l ...api.Entry) []api.Entry     { return l }
func rows(l ...[]api.Entry) [][]api.Entry {
	return l
}

// ahead tells whether x stands ahead of y, by the chapter's words.
func ahead(x, y api.Entry) bool {
	return x.Key < y.Key || x.Key == y.Key && x.Seq > y.Seq
}

// plainMayBe tells whether an entry may be, by the chapter's words.
func plainMayBe(x api.Entry) bool {
	ok := len(x.Key) >= 1 && len(x.Key) <= 64 && x.Seq >= 1 && x.Seq <= 1<<40
	return ok && len(x.Value) <= 512 && (!x.Dead || len(x.Value) == 0)
}

// plainCheck is what Check is to answer: each pair of entries is asked.
func plainCheck(l []api.Entry) api.Errno {
	if len(l) > 65536 {
		return api.ErrMany
	}
	for i, x := range l {
		if !plainMayBe(x) {
			return api.ErrBad
		}
		for _, y := range l[i+1:] {
			if !ahead(x, y) {
				return api.ErrBad
			}
		}
	}
	return api.OK
}

// plainRows is what Rows is to answer: all entries are sorted anew, each pair of them is asked.
func plainRows(l [][]api.Entry) ([]api.Entry, api.Errno) {
	for _, x := range l {
		if err := plainCheck(x); err != api.OK {
			return nil, err
		}
	}
	all := slices.Concat(l...)
	if len(all) > 65536 {
		return nil, api.ErrMany
	}
	for i, x := range all {
		for _, y := range all[i+1:] {
			if x.Key == y.Key && x.Seq == y.Seq {
				return nil, api.ErrBad
			}
		}
	}
	return sorted(all), api.OK
}

func sorted(l []api.Entry) []api.Entry {
	out := slices.Clone(l)
	slices.SortFunc(out, func(x, y api.Entry) int {
		if ahead(x, y) {
			return -1
		}
		return 1
	})
	return out
}

// isSeen tells whether x, which is one of the entries, is seen at a number: no other one of its key is newer and not above it.
func isSeen(l []api.Entry, x api.Entry, seq int) bool {
	return x.Seq <= seq && !slices.ContainsFunc(l, func(y api.Entry) bool {
		return y.Key == x.Key && y.Seq <= seq && y.Seq > x.Seq
	})
}

// plainAt asks each entry.
func plainAt(l []api.Entry, seq int) (out []api.Entry) {
	for _, x := range l {
		if isSeen(l, x, seq) {
			out = append(out, x)
		}
	}
	return out
}

// plainLive asks each entry.
func plainLive(l []api.Entry, seq int) (out []api.Entry) {
	for _, x := range l {
		if isSeen(l, x, seq) && !x.Dead {
			out = append(out, x)
		}
	}
	return out
}

// plainDrop asks each entry.
func plainDrop(l []api.Entry, oldest int, last bool) (out []api.Entry) {
	for _, x := range l {
		if x.Seq > oldest || isSeen(l, x, oldest) && !(x.Dead && last) {
			out = append(out, x)
		}
	}
	return out
}

// keyed are so many entries of keys that rise, whose numbers are mixed.
func keyed(n int) (l []api.Entry) {
	for i := range n {
		l = append(l, e("k"+strconv.Itoa(100000+i), 1+i*7919%1000, "v"))
	}
	return l
}

// newest are so many entries of one key, each third one dead.
func newest(n int) (l []api.Entry) {
	for i := range n {
		l = append(l, e("k", n-i, ""))
		l[i].Dead = i%3 == 0
	}
	return l
}

// mixed are so many entries, up to five of a key, some of them dead.
func mixed(n int) (l []api.Entry) {
	for i := 0; len(l) < n; i++ {
		key := "mixed " + strconv.Itoa(100000+i)
		for k := range min(1+i%5, n-len(l)) {
			x := e(key, 900-90*k-i%7, strconv.Itoa(k))
			if (i+k)%4 == 0 {
				x = gone(key, x.Seq)
			}
			l = append(l, x)
		}
	}
	return l
}

// turned is a copy of entries, two of them turned.
func turned(l []api.Entry, at int) []api.Entry {
	l = slices.Clone(l)
	l[at], l[at+1] = l[at+1], l[at]
	return l
}

// with is a copy of entries, one of them replaced.
func with(l []api.Entry, at int, x api.Entry) []api.Entry {
	l = slices.Clone(l)
	l[at] = x
	return l
}

func example() []api.Entry { return row(e("a", 3, "x"), gone("a", 2), e("a", 1, "w"), e("b", 2, "y")) }

// good are rows.
func good() map[string][]api.Entry {
	return map[string][]api.Entry{
		"none":                 nil,
		"none, not nil":        {},
		"the example":          example(),
		"one":                  row(e("a", 1, "x")),
		"one dead":             row(gone("a", 1)),
		"no value":             row(e("a", 1, "")),
		"the greatest number":  row(e("a", maxSeq, "x"), gone("a", maxSeq-1), gone("b", maxSeq)),
		"the longest texts":    row(e(text(64), maxSeq, text(512)), gone(text(64), 1)),
		"one key":              row(e("a", 9, ""), gone("a", 7), e("a", 2, "x"), gone("a", 1)),
		"one key, dead at end": row(gone("a", 9), gone("a", 7), e("a", 2, "x")),
		"one number":           row(e("a", 5, "x"), gone("b", 5), e("c", 5, "")),
		"begins the other one": row(e("a", 1, ""), e("a\x00", 9, "x"), e("a\x00\x00", 4, ""), gone("ab", 7), e("b", 2, "")),
		"texts of all bytes":   row(e("\x00", 4, "\x00\xff"), e("\x7f", 3, ""), e("\x80", 2, "\x80"), gone("\xff", 1), e("\xff\xff", 9, "€")),
		"dead alone":           row(gone("a", 4), gone("a", 2), gone("b", 3), gone("c", 1)),
		"100, mixed":           mixed(100),
		"100 of one key":       newest(100),
		"100 keys":             keyed(100),
	}
}

// badEntries are such as may not be.
func badEntries() map[string]api.Entry {
	return map[string]api.Entry{
		"zero":                       {},
		"no key":                     e("", 2, "x"),
		"no key, dead":               gone("", 2),
		"a key of 65 bytes":          e(strings.Repeat("k", 65), 2, "x"),
		"a key of 65, dead":          gone(strings.Repeat("k", 65), 2),
		"a key of 33 runes":          e(strings.Repeat("é", 33), 2, "x"),
		"a very long key":            e(strings.Repeat("k", 1<<16), 2, "x"),
		"the number 0":               e("k", 0, "x"),
		"the number -1":              e("k", -1, "x"),
		"the least number":           e("k", math.MinInt, "x"),
		"above MaxSeq":               e("k", maxSeq+1, "x"),
		"far above MaxSeq":           e("k", maxSeq<<1|1, "x"),
		"the greatest number of all": e("k", math.MaxInt, "x"),
		"dead, the number 0":         gone("k", 0),
		"dead, above MaxSeq":         gone("k", maxSeq+1),
		"a value of 513 bytes":       e("k", 2, text(513)),
		"a value of 257 runes":       e("k", 2, strings.Repeat("é", 257)),
		"a very long value":          e("k", 2, text(1<<16)),
		"dead, with a value":         {Key: "k", Seq: 2, Dead: true, Value: "x"},
		"dead, with a byte 0":        {Key: "k", Seq: 2, Dead: true, Value: "\x00"},
		"dead, too long a value":     {Key: "k", Seq: 2, Dead: true, Value: text(513)},
	}
}

// bad are entries that are not too many, and no row.
func bad() map[string][]api.Entry {
	full := keyed(65536)
	out := map[string][]api.Entry{
		"keys fall":                   row(e("b", 1, ""), e("a", 2, "")),
		"keys fall, and the numbers":  row(e("b", 2, ""), e("a", 1, "")),
		"keys fall at the end":        row(e("a", 1, ""), e("b", 2, ""), e("ab", 3, "")),
		"the one that begins another": row(e("ab", 1, ""), e("a", 2, "")),
		"by bytes, not by signs":      row(e("\x80", 1, ""), e("\x7f", 2, "")),
		"by how long they are":        row(e("b", 1, ""), e("aa", 1, "")),
		"numbers rise":                row(e("a", 1, ""), e("a", 2, "")),
		"numbers rise at the end":     row(e("a", 3, ""), e("a", 1, ""), e("a", 2, "")),
		"one twice":                   row(e("a", 1, ""), e("a", 1, "")),
		"one twice, one dead":         row(e("a", 1, ""), gone("a", 1)),
		"one twice, other values":     row(e("a", 1, "y"), e("a", 1, "x")),
		"one twice, others behind":    row(e("a", 1, "y"), e("a", 1, "x"), e("b", 1, "")),
		"a key once more":             row(e("a", 3, ""), e("b", 1, ""), e("a", 1, "")),
		"65,536, the first turned":    turned(full, 0),
		"65,536, the last turned":     turned(full, 65534),
		"65,536, the last bad":        with(full, 65535, api.Entry{}),
		"65,536, one twice":           with(full, 40000, full[39999]),
	}
	for name, x := range badEntries() {
		out["alone: "+name] = row(x)
		out["first: "+name] = row(x, e("z", 1, ""))
		out["last: "+name] = row(e("\x00", 9, ""), x)
		out["midst: "+name] = row(e("\x00", 9, ""), x, e("z", 1, ""))
	}
	return out
}

// tooMany are more entries than a row may have.
func tooMany() map[string][]api.Entry {
	return map[string][]api.Entry{
		"65,537":                 keyed(65537),
		"65,537 of one key":      newest(65537),
		"65,537 that may not be": make([]api.Entry, 65537),
		"65,537, turned":         turned(keyed(65537), 0),
		"100,000":                newest(100000),
	}
}

// refused are all entries that are no row, by their errors.
func refused(visit func(what string, l []api.Entry, want api.Errno)) {
	for name, l := range bad() {
		visit(name, l, api.ErrBad)
	}
	for name, l := range tooMany() {
		visit(name, l, api.ErrMany)
	}
}

// allRows visits all rows of the keys a and b with the numbers 1 to 3, each put, dead or not there.
func allRows(visit func(l []api.Entry)) {
	for n := range 729 {
		var l []api.Entry
		for i := range 6 {
			key, seq := "ab"[i/3:i/3+1], 3-i%3
			switch n % 3 {
			case 1:
				l = append(l, e(key, seq, strconv.Itoa(i)))
			case 2:
				l = append(l, gone(key, seq))
			}
			n /= 3
		}
		visit(l)
	}
}

// seqsNear are all numbers of entries, and such as stand beside them.
func seqsNear(l []api.Entry) []int {
	out := []int{0, 1, 2, maxSeq - 1, maxSeq}
	for _, x := range l {
		out = append(out, x.Seq-1, x.Seq, min(x.Seq+1, maxSeq))
	}
	slices.Sort(out)
	return slices.Compact(out)
}

// dealt is a row's entries, dealt out to so many rows.
func dealt(r *rand.Rand, l []api.Entry, many int) [][]api.Entry {
	out := make([][]api.Entry, many)
	for _, x := range l {
		i := r.Intn(many)
		out[i] = append(out[i], x)
	}
	return out
}

// someRow is a row of up to so many entries, of keys of a few letters and of few numbers.
func someRow(r *rand.Rand, most int) []api.Entry {
	var l []api.Entry
	for range r.Intn(most + 1) {
		x := e(text(r.Intn(2))+string([]byte{byte('a' + r.Intn(4))})+text(r.Intn(2)), 1+r.Intn(12), strconv.Itoa(r.Intn(1000)))
		if r.Intn(3) == 0 {
			x = gone(x.Key, x.Seq)
		}
		if !slices.ContainsFunc(l, func(y api.Entry) bool { return x.Key == y.Key && x.Seq == y.Seq }) {
			l = append(l, x)
		}
	}
	return sorted(l)
}

func wantRows(t *testing.T, what string, l [][]api.Entry, want []api.Entry, wantErr api.Errno) {
	t.Helper()
	if got, err := merge.Rows(l); !slices.Equal(got, want) || err != wantErr {
		t.Errorf("%s: Rows: %s, error %d, not %s, error %d", what, short(got), err, short(want), wantErr)
	}
}

func wantSeen(t *testing.T, what string, l []api.Entry, seq int, at, live []api.Entry) {
	t.Helper()
	if got, err := merge.At(l, seq); !slices.Equal(got, at) || err != api.OK {
		t.Errorf("%s: At %d: %s, error %d, not %s", what, seq, short(got), err, short(at))
	}
	if got, err := merge.Live(l, seq); !slices.Equal(got, live) || err != api.OK {
		t.Errorf("%s: Live %d: %s, error %d, not %s", what, seq, short(got), err, short(live))
	}
}

func wantDrop(t *testing.T, what string, l []api.Entry, oldest int, last bool, want []api.Entry) {
	t.Helper()
	if got, err := merge.Drop(l, oldest, last); !slices.Equal(got, want) || err != api.OK {
		t.Errorf("%s: Drop %d, %v: %s, error %d, not %s", what, oldest, last, short(got), err, short(want))
	}
}

// wantNone wants the error of all calls that take a row and a number, and nothing beside it.
func wantNone(t *testing.T, what string, l []api.Entry, seq int, want api.Errno) {
	t.Helper()
	if got, err := merge.At(l, seq); len(got) != 0 || err != want {
		t.Errorf("%s: At %d: %s, error %d, not %d", what, seq, short(got), err, want)
	}
	if got, err := merge.Live(l, seq); len(got) != 0 || err != want {
		t.Errorf("%s: Live %d: %s, error %d, not %d", what, seq, short(got), err, want)
	}
	for _, last := range []bool{false, true} {
		if got, err := merge.Drop(l, seq, last); len(got) != 0 || err != want {
			t.Errorf("%s: Drop %d, %v: %s, error %d, not %d", what, seq, last, short(got), err, want)
		}
	}
}

// short is a list's text, of the first few of its entries.
func short(l []api.Entry) string {
	var b strings.Builder
	b.WriteString(strconv.Itoa(len(l)) + ":")
	for _, x := range l[:min(8, len(l))] {
		b.WriteString(" " + strconv.Quote(x.Key) + " " + strconv.Itoa(x.Seq))
		if x.Dead {
			b.WriteString(" dead")
		}
	}
	return b.String()
}
