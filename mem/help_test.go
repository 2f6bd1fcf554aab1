package mem_test

import (
	"math"
	"math/rand"
	"slices"
	"strconv"
	"strings"
	"testing"

	"millhand/api"
	"millhand/mem"
)

const maxSeq = 1 << 40

func e(key string, seq int, value string) api.Entry {
	return api.Entry{Key: key, Seq: seq, Value: value}
}
func gone(key string, seq int) api.Entry { return api.Entry{Key: key, Seq: seq, Dead: true} }
func put(key, value string) api.Op       { return api.Op{Key: key, Value: value} }
func dead(key string) api.Op             { return api.Op{Key: key, Dead: true} }
func text(many int) string               { return strings.Repeat("t", many) }
func of(l ...api.Entry) api.Mem          { return api.Mem{Entries: l} }

// ahead tells whether x stands ahead of y, by the chapter's words.
func ahead(x, y api.Entry) bool {
	return x.Key < y.Key || x.Key == y.Key && x.Seq > y.Seq
}

// plainMayBe tells whether an entry may be, by the chapter's words.
func plainMayBe(x api.Entry) bool {
	ok := len(x.Key) >= 1 && len(x.Key) <= 64 && x.Seq >= 1 && x.Seq <= 1<<40
	return ok && len(x.Value) <= 512 && (!x.Dead || len(x.Value) == 0)
}

// plainCheck is what Check is to answer: each pair of entries is asked.
func plainCheck(l []api.Entry) api.Errno {
	if len(l) > 512 {
		return api.ErrMany
	}
	for i, x := range l {
		if !plainMayBe(x) {
			return api.ErrBad
		}
		for _, y := range l[i+1:] {
			if !ahead(x, y) {
				return api.ErrBad
			}
		}
	}
	return api.OK
}

// plainApply is m with the batch's entries, sorted anew.
func plainApply(m api.Mem, seq int, l []api.Op) api.Mem {
	out := slices.Clone(m.Entries)
	for i, op := range l {
		out = append(out, api.Entry{Key: op.Key, Seq: seq + i, Dead: op.Dead, Value: op.Value})
	}
	slices.SortFunc(out, func(x, y api.Entry) int {
		if ahead(x, y) {
			return -1
		}
		return 1
	})
	return of(out...)
}

// plainGet asks each entry.
func plainGet(l []api.Entry, key string, seq int) (best api.Entry, is bool) {
	for _, x := range l {
		if x.Key == key && x.Seq <= seq && (!is || x.Seq > best.Seq) {
			best, is = x, true
		}
	}
	return best, is
}

// plainRange asks each entry.
func plainRange(l []api.Entry, from, to string) (out []api.Entry) {
	for _, x := range l {
		if x.Key >= from && (to == "" || x.Key < to) {
			out = append(out, x)
		}
	}
	return out
}

// many are so many entries, all of other keys, whose numbers are mixed.
func many(n int) api.Mem {
	var l []api.Entry
	for i := range n {
		l = append(l, e("k"+strconv.Itoa(1000+i), 1+i*7919%1000, "v"))
	}
	return of(l...)
}

// newest are so many entries of one key.
func newest(n int) api.Mem {
	var l []api.Entry
	for i := range n {
		l = append(l, e("k", n-i, ""))
	}
	return of(l...)
}

func example() api.Mem { return of(e("a", 3, "x"), gone("a", 1), e("b", 2, "y")) }

// good are entries in memory that may be.
func good() map[string]api.Mem {
	return map[string]api.Mem{
		"none":                 {},
		"none, not nil":        {Entries: []api.Entry{}},
		"the example":          example(),
		"one":                  of(e("a", 1, "x")),
		"one deleted":          of(gone("a", 1)),
		"no value":             of(e("a", 1, "")),
		"the greatest number":  of(e("a", maxSeq, "x")),
		"the longest texts":    of(e(text(64), maxSeq, text(512)), gone(text(64), 1)),
		"one key":              of(e("a", 9, ""), gone("a", 7), e("a", 2, "x"), gone("a", 1)),
		"one number":           of(e("a", 5, "x"), gone("b", 5), e("c", 5, "")),
		"begins the other one": of(e("a", 1, ""), e("a\x00", 9, "x"), e("a\x00\x00", 4, ""), gone("ab", 7), e("b", 2, "")),
		"texts of all bytes":   of(e("\x00", 4, "\x00\xff"), e("\x7f", 3, ""), e("\x80", 2, "\x80"), gone("\xff", 1), e("\xff\xff", 9, "€")),
		"511":                  many(511),
		"512":                  many(512),
		"512 of one key":       newest(512),
		"512 of the longest":   longest(),
	}
}

func longest() api.Mem {
	m := newest(512)
	for i := range m.Entries {
		m.Entries[i].Key, m.Entries[i].Value = text(64), text(512)
	}
	return m
}

// badEntries are such as may not be.
func badEntries() map[string]api.Entry {
	return map[string]api.Entry{
		"zero":                       {},
		"no key":                     e("", 2, "x"),
		"no key, deleted":            gone("", 2),
		"a key of 65 bytes":          e(strings.Repeat("k", 65), 2, "x"),
		"a key of 65, deleted":       gone(strings.Repeat("k", 65), 2),
		"a key of 33 runes":          e(strings.Repeat("é", 33), 2, "x"),
		"a very long key":            e(strings.Repeat("k", 1<<16), 2, "x"),
		"the number 0":               e("k", 0, "x"),
		"the number -1":              e("k", -1, "x"),
		"the least number":           e("k", math.MinInt, "x"),
		"above MaxSeq":               e("k", maxSeq+1, "x"),
		"far above MaxSeq":           e("k", maxSeq<<1|1, "x"),
		"the greatest number of all": e("k", math.MaxInt, "x"),
		"deleted, the number 0":      gone("k", 0),
		"deleted, above MaxSeq":      gone("k", maxSeq+1),
		"a value of 513 bytes":       e("k", 2, text(513)),
		"a value of 257 runes":       e("k", 2, strings.Repeat("é", 257)),
		"a very long value":          e("k", 2, text(1<<16)),
		"deleted, with a value":      {Key: "k", Seq: 2, Dead: true, Value: "x"},
		"deleted, with a byte 0":     {Key: "k", Seq: 2, Dead: true, Value: "\x00"},
		"deleted, too long a value":  {Key: "k", Seq: 2, Dead: true, Value: text(513)},
	}
}

// bad are entries in memory that are not too many, and may not be.
func bad() map[string]api.Mem {
	out := map[string]api.Mem{
		"keys fall":                    of(e("b", 1, ""), e("a", 2, "")),
		"keys fall, and the numbers":   of(e("b", 2, ""), e("a", 1, "")),
		"keys fall at the end":         of(e("a", 1, ""), e("b", 2, ""), e("ab", 3, "")),
		"the one that begins another":  of(e("ab", 1, ""), e("a", 2, "")),
		"by bytes, not by signs":       of(e("\x80", 1, ""), e("\x7f", 2, "")),
		"numbers rise":                 of(e("a", 1, ""), e("a", 2, "")),
		"numbers rise at the end":      of(e("a", 3, ""), e("a", 1, ""), e("a", 2, "")),
		"one twice":                    of(e("a", 1, ""), e("a", 1, "")),
		"one twice, one deleted":       of(e("a", 1, ""), gone("a", 1)),
		"one twice, other values":      of(e("a", 1, "y"), e("a", 1, "x")),
		"one twice, others behind":     of(e("a", 1, "y"), e("a", 1, "x"), e("b", 1, "")),
		"not one behind the other":     of(e("a", 3, ""), e("b", 1, ""), e("a", 1, "")),
		"512, the last two turned":     turned(many(512), 510),
		"512, the first two turned":    turned(many(512), 0),
		"512 of a key, the last twice": turned(newest(512), 510),
	}
	for name, x := range badEntries() {
		out["alone: "+name] = of(x)
		out["first: "+name] = of(x, e("z", 1, ""))
		out["last: "+name] = of(e("\x00", 9, ""), x)
		m := many(512)
		m.Entries[511] = x
		out["the 512th: "+name] = m
	}
	return out
}

func turned(m api.Mem, at int) api.Mem {
	m.Entries[at], m.Entries[at+1] = m.Entries[at+1], m.Entries[at]
	return m
}

// tooMany are more entries than there may be.
func tooMany() map[string]api.Mem {
	return map[string]api.Mem{
		"513":                 many(513),
		"513 of one key":      newest(513),
		"513 that may not be": of(make([]api.Entry, 513)...),
		"513, turned":         turned(many(513), 0),
		"1024":                many(1024),
		"65,536 of one key":   newest(1 << 16),
	}
}

// refused are all entries that are none in memory, by their errors.
func refused(visit func(what string, m api.Mem, want api.Errno)) {
	for name, m := range bad() {
		visit(name, m, api.ErrBad)
	}
	for name, m := range tooMany() {
		visit(name, m, api.ErrMany)
	}
}

func same(x, y api.Mem) bool { return slices.Equal(x.Entries, y.Entries) }

// applied is what Apply answers, which is to be without an error.
func applied(t *testing.T, m api.Mem, seq int, l ...api.Op) api.Mem {
	t.Helper()
	out, err := mem.Apply(m, seq, l)
	if err != api.OK {
		t.Fatalf("Apply from %d on, %d operations to %d: error %d", seq, len(l), len(m.Entries), err)
	}
	return out
}

func wantNoApply(t *testing.T, what string, m api.Mem, seq int, l []api.Op, want api.Errno) {
	t.Helper()
	if out, err := mem.Apply(m, seq, l); err != want || len(out.Entries) != 0 {
		t.Errorf("%s: Apply: %d entries, error %d, not %d", what, len(out.Entries), err, want)
	}
}

func wantGet(t *testing.T, what string, m api.Mem, key string, seq int, want api.Entry, is bool) {
	t.Helper()
	if x, ok, err := mem.Get(m, key, seq); x != want || ok != is || err != api.OK {
		t.Errorf("%s: Get %q at %d: %v, %v, error %d", what, key, seq, x, ok, err)
	}
}

func wantNoGet(t *testing.T, what string, m api.Mem, key string, seq int, want api.Errno) {
	t.Helper()
	if x, ok, err := mem.Get(m, key, seq); x != (api.Entry{}) || ok || err != want {
		t.Errorf("%s: Get %q at %d: %v, %v, error %d, not %d", what, key, seq, x, ok, err, want)
	}
}

func wantRange(t *testing.T, what string, m api.Mem, from, to string, want []api.Entry) {
	t.Helper()
	if l, err := mem.Range(m, from, to); !slices.Equal(l, want) || err != api.OK {
		t.Errorf("%s: Range from %q to %q: %v, error %d, not %v", what, from, to, l, err, want)
	}
}

func wantNoRange(t *testing.T, what string, m api.Mem, from, to string, want api.Errno) {
	t.Helper()
	if l, err := mem.Range(m, from, to); len(l) != 0 || err != want {
		t.Errorf("%s: Range: %v, error %d, not %d", what, l, err, want)
	}
}

// keysNear are all keys of entries, and such as stand beside them.
func keysNear(m api.Mem) []string {
	out := []string{"\x00", "a", "m", "\xff", strings.Repeat("\xff", 64)}
	for _, x := range m.Entries {
		k := x.Key
		out = append(out, k, k[:len(k)-1]+string([]byte{k[len(k)-1] - 1}), k[:len(k)-1]+string([]byte{k[len(k)-1] + 1}))
		if len(k) < 64 {
			out = append(out, k+"\x00", k+"\xff")
		}
		if len(k) > 1 {
			out = append(out, k[:len(k)-1])
		}
	}
	slices.Sort(out)
	return slices.Compact(out)
}

// seqsNear are all numbers of entries, and such as stand beside them.
func seqsNear(m api.Mem) []int {
	out := []int{0, 1, 2, maxSeq - 1, maxSeq}
	for _, x := range m.Entries {
		out = append(out, x.Seq-1, x.Seq, min(x.Seq+1, maxSeq))
	}
	slices.Sort(out)
	return slices.Compact(out)
}

// someOps is a batch of keys of a few letters, so that they meet.
func someOps(r *rand.Rand, most int) []api.Op {
	l := make([]api.Op, 1+r.Intn(most))
	for i := range l {
		key := text(r.Intn(2)) + string([]byte{byte('a' + r.Intn(4))}) + text(r.Intn(2))
		l[i] = dead(key)
		if r.Intn(3) > 0 {
			l[i] = put(key, strconv.Itoa(r.Intn(1000)))
		}
	}
	return l
}
