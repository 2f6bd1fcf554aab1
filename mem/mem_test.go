package mem_test

import (
	"math"
	"math/rand"
	"slices"
	"strings"
	"testing"

	"millhand/api"
	"millhand/mem"
)

func TestCheck(t *testing.T) { // P11.1
	for name, m := range good() {
		if err := mem.Check(m); err != api.OK {
			t.Errorf("%s: error %d", name, err)
		}
	}
	refused(func(name string, m api.Mem, want api.Errno) {
		if err := mem.Check(m); err != want {
			t.Errorf("%s: error %d, not %d", name, err, want)
		}
	})
}

func TestCheckHowMany(t *testing.T) { // P11.1, MaxMem: at it and one more
	for n := range 520 {
		want := api.OK
		if n > api.MaxMem {
			want = api.ErrMany
		}
		for _, m := range []api.Mem{many(n), newest(n)} {
			if err := mem.Check(m); err != want {
				t.Errorf("%d: error %d, not %d", n, err, want)
			}
		}
	}
}

func TestCheckFields(t *testing.T) { // P11.1: each field at its limits and one more
	for key := range 70 {
		for _, seq := range []int{math.MinInt, -1, 0, 1, 2, maxSeq - 1, maxSeq, maxSeq + 1, math.MaxInt} {
			for _, value := range []int{0, 1, 511, 512, 513} {
				for _, is := range []bool{false, true} {
					x := api.Entry{Key: text(key), Seq: seq, Dead: is, Value: text(value)}
					want := api.OK
					if !plainMayBe(x) {
						want = api.ErrBad
					}
					if err := mem.Check(of(x)); err != want {
						t.Errorf("a key of %d, %d, a value of %d, %v: error %d, not %d", key, seq, value, is, err, want)
					}
				}
			}
		}
	}
}

func TestCheckAllShortLists(t *testing.T) { // P11.1: all lists of up to four of some entries
	some := []api.Entry{e("a", 1, ""), e("a", 2, "x"), gone("a", 2), e("ab", 1, ""), gone("b", 1), e("b", 3, "y"), {}}
	var grow func(l []api.Entry)
	grow = func(l []api.Entry) {
		if err := mem.Check(of(l...)); err != plainCheck(l) {
			t.Errorf("%v: error %d", l, err)
		}
		if len(l) == 4 {
			return
		}
		for _, x := range some {
			grow(append(slices.Clone(l), x))
		}
	}
	grow(nil)
}

func TestApply(t *testing.T) { // P11.2: each at its place
	for _, c := range []struct {
		name string
		m    api.Mem
		seq  int
		l    []api.Op
		want api.Mem
	}{
		{"to none", api.Mem{}, 5, []api.Op{put("b", "1"), put("a", "2"), dead("b")}, of(e("a", 6, "2"), gone("b", 7), e("b", 5, "1"))},
		{"to none, not nil", of(), 1, []api.Op{put("a", "x")}, of(e("a", 1, "x"))},
		{"the example", example(), 4, []api.Op{put("a", "z")}, of(e("a", 4, "z"), e("a", 3, "x"), gone("a", 1), e("b", 2, "y"))},
		{"ahead of all", example(), 9, []api.Op{put("A", "")}, of(e("A", 9, ""), e("a", 3, "x"), gone("a", 1), e("b", 2, "y"))},
		{"behind all", example(), 9, []api.Op{dead("c")}, of(e("a", 3, "x"), gone("a", 1), e("b", 2, "y"), gone("c", 9))},
		{"between", example(), 9, []api.Op{put("a\x00", "m"), put("b", "n")}, of(e("a", 3, "x"), gone("a", 1), e("a\x00", 9, "m"), e("b", 10, "n"), e("b", 2, "y"))},
		{"again and again", example(), 4, []api.Op{put("a", "1"), dead("a"), put("a", "1")}, of(e("a", 6, "1"), gone("a", 5), e("a", 4, "1"), e("a", 3, "x"), gone("a", 1), e("b", 2, "y"))},
		{"the greatest number", example(), maxSeq - 64, []api.Op{put("c", "")}, of(e("a", 3, "x"), gone("a", 1), e("b", 2, "y"), e("c", maxSeq-64, ""))},
	} {
		if got := applied(t, c.m, c.seq, c.l...); !same(got, c.want) {
			t.Errorf("%s: %v, not %v", c.name, got, c.want)
		}
	}
}

func TestApplyInAnyOrder(t *testing.T) { // P11.2: one batch of all keys in all orders, one operation after another and at once
	keys := []string{"a", "aa", "b", "b", "c"}
	var turn func(rest []string, l []api.Op)
	turn = func(rest []string, l []api.Op) {
		if len(rest) == 0 {
			want := plainApply(example(), 10, l)
			if got := applied(t, example(), 10, l...); !same(got, want) {
				t.Errorf("%v at once: %v", l, got)
			}
			m := example()
			for i, op := range l {
				m = applied(t, m, 10+i, op)
			}
			if !same(m, want) {
				t.Errorf("%v one after another: %v", l, m)
			}
			return
		}
		for i, k := range rest {
			op := put(k, text(i))
			if i == 2 {
				op = dead(k)
			}
			turn(slices.Delete(slices.Clone(rest), i, i+1), append(slices.Clone(l), op))
		}
	}
	turn(keys, nil)
}

func TestApplySeq(t *testing.T) { // P11.2: a number above all of them, wherever the greatest one stands
	for name, m := range map[string]api.Mem{
		"first":  of(e("a", 50, ""), e("b", 7, ""), e("c", 9, "")),
		"midst":  of(e("a", 7, ""), gone("b", 50), e("b", 9, ""), e("c", 9, "")),
		"last":   of(e("a", 7, ""), e("b", 9, ""), e("c", 50, "")),
		"alone":  of(gone("c", 50)),
		"shared": of(e("a", 50, ""), e("b", 50, "")),
	} {
		for _, seq := range []int{1, 6, 7, 8, 9, 10, 49, 50} {
			wantNoApply(t, name, m, seq, []api.Op{put("a", "")}, api.ErrArg)
			wantNoApply(t, name, m, seq, slices.Repeat([]api.Op{dead("x")}, 64), api.ErrArg)
		}
		for _, seq := range []int{51, 52, 1000, maxSeq - 64} {
			l := []api.Op{put("b", "x"), dead("bb")}
			if got := applied(t, m, seq, l...); !same(got, plainApply(m, seq, l)) {
				t.Errorf("%s from %d on: %v", name, seq, got)
			}
		}
	}
	for _, seq := range []int{maxSeq - 64, maxSeq - 63, maxSeq} {
		wantNoApply(t, "up to the last number", of(e("a", seq, "")), maxSeq-64, []api.Op{put("a", "")}, api.ErrArg)
	}
}

func TestApplyBatchErrors(t *testing.T) { // P11.2: batch.Entries' errors, ahead of all of Apply's own
	for name, m := range map[string]api.Mem{"none": {}, "the example": example(), "full": newest(512), "at the last number": of(e("a", maxSeq, ""))} {
		for _, seq := range []int{math.MinInt, -1, 0, maxSeq - 63, maxSeq, maxSeq + 1, math.MaxInt} {
			for _, l := range [][]api.Op{nil, {put("a", "x")}, {{}}, make([]api.Op, 65)} {
				wantNoApply(t, name, m, seq, l, api.ErrArg)
			}
		}
		for _, seq := range []int{1, 1000, maxSeq - 64} {
			wantNoApply(t, name+", no operation", m, seq, nil, api.ErrMany)
			wantNoApply(t, name+", no operation", m, seq, []api.Op{}, api.ErrMany)
			wantNoApply(t, name+", 65", m, seq, slices.Repeat([]api.Op{put("a", "x")}, 65), api.ErrMany)
			wantNoApply(t, name+", 65 bad", m, seq, make([]api.Op, 65), api.ErrMany)
			for _, op := range []api.Op{{}, dead(""), put(text(65), ""), dead(text(65)), put("a", text(513)), {Key: "a", Dead: true, Value: "x"}} {
				wantNoApply(t, name+", bad", m, seq, []api.Op{op}, api.ErrBad)
				wantNoApply(t, name+", bad at the end", m, seq, []api.Op{put("a", "x"), op}, api.ErrBad)
			}
		}
	}
	wantNoApply(t, "a number not above, and too many", newest(512), 512, []api.Op{put("a", "")}, api.ErrArg)
}

func TestApplyMany(t *testing.T) { // P11.2, MaxMem: up to it and one more
	for _, n := range []int{0, 1, 448, 449, 500, 510, 511, 512} {
		for _, k := range []int{1, 2, 12, 13, 63, 64} {
			for _, m := range []api.Mem{newest(n), many(n)} {
				l := slices.Repeat([]api.Op{put("k", text(k))}, k)
				if n+k > 512 {
					wantNoApply(t, "too many", m, 1<<30, l, api.ErrMany)
					continue
				}
				if got := applied(t, m, 1<<30, l...); !same(got, plainApply(m, 1<<30, l)) || mem.Check(got) != api.OK {
					t.Errorf("%d and %d: %d", n, k, len(got.Entries))
				}
			}
		}
	}
	var m api.Mem
	for i := range 8 {
		m = applied(t, m, 1+i*64, slices.Repeat([]api.Op{put(text(64), text(512))}, 64)...)
	}
	if !same(m, longest()) {
		t.Error("512 of the longest, batch by batch")
	}
	wantNoApply(t, "513", m, 513, []api.Op{dead("a")}, api.ErrMany)
}

func TestGet(t *testing.T) { // P11.3
	m := example()
	wantGet(t, "example", m, "a", 3, e("a", 3, "x"), true)
	wantGet(t, "example", m, "a", 2, gone("a", 1), true)
	wantGet(t, "example", m, "a", 0, api.Entry{}, false)
	wantGet(t, "example", m, "c", 9, api.Entry{}, false)
	for name, m := range good() {
		keys, seqs := keysNear(m), seqsNear(m)
		if len(m.Entries) > 100 { // every key, every number, not each with each
			keys, seqs = keys[max(0, len(keys)-20):], seqs[:20]
			for _, x := range m.Entries {
				wantGet(t, name, m, x.Key, x.Seq, x, true)
				want, is := plainGet(m.Entries, x.Key, x.Seq-1)
				wantGet(t, name, m, x.Key, x.Seq-1, want, is)
			}
		}
		for _, key := range keys {
			for _, seq := range seqs {
				want, is := plainGet(m.Entries, key, seq)
				wantGet(t, name, m, key, seq, want, is)
			}
		}
	}
}

func TestGetRefused(t *testing.T) { // P11.3: the key's error ahead of the number's
	for name, m := range good() {
		for _, key := range []string{"", text(65), strings.Repeat("é", 33), text(1 << 16)} {
			for _, seq := range []int{math.MinInt, -1, 0, 3, maxSeq, maxSeq + 1, math.MaxInt} {
				wantNoGet(t, name, m, key, seq, api.ErrText)
			}
		}
		for _, key := range []string{"a", "\x00", text(64), "z"} {
			for _, seq := range []int{math.MinInt, -maxSeq, -1, maxSeq + 1, maxSeq << 1, math.MaxInt} {
				wantNoGet(t, name, m, key, seq, api.ErrArg)
			}
		}
	}
}

func TestRange(t *testing.T) { // P11.3
	m := example()
	wantRange(t, "example", m, "a", "b", []api.Entry{e("a", 3, "x"), gone("a", 1)})
	wantRange(t, "example", m, "b", "", []api.Entry{e("b", 2, "y")})
	for name, m := range good() {
		keys := append(keysNear(m), "")
		if len(keys) > 100 {
			keys = append(keys[:20:20], keys[len(keys)-20:]...)
		}
		for _, from := range keys {
			for _, to := range keys {
				wantRange(t, name, m, from, to, plainRange(m.Entries, from, to))
			}
		}
		wantRange(t, name+", all", m, "", "", m.Entries)
		wantRange(t, name+", none", m, "", "\x00", nil)
		wantRange(t, name+", none", m, strings.Repeat("\xff", 64), "", nil)
	}
}

func TestRangeRefused(t *testing.T) { // P11.3: either one too long, in whatever order they stand
	for name, m := range good() {
		for _, long := range []string{text(65), strings.Repeat("é", 33), strings.Repeat("\xff", 65), text(1 << 16)} {
			for _, other := range []string{"", "a", "zz", text(64), text(65)} {
				wantNoRange(t, name, m, long, other, api.ErrText)
				wantNoRange(t, name, m, other, long, api.ErrText)
			}
		}
	}
}

func TestSize(t *testing.T) { // P11.3
	if n, err := mem.Size(example()); n != 5 || err != api.OK {
		t.Errorf("the example: %d, error %d", n, err)
	}
	if n, err := mem.Size(longest()); n != 512*576 || err != api.OK {
		t.Errorf("512 of the longest: %d, error %d", n, err)
	}
	for name, m := range good() {
		want := 0
		for _, x := range m.Entries {
			want += len(x.Key + x.Value)
		}
		if n, err := mem.Size(m); n != want || err != api.OK {
			t.Errorf("%s: %d, not %d, error %d", name, n, want, err)
		}
	}
}

func TestEntriesFirst(t *testing.T) { // P11.1: "all below: that first", whatever else is wrong
	refused(func(name string, m api.Mem, want api.Errno) {
		for _, seq := range []int{0, 1, 1 << 30, maxSeq + 1} {
			for _, l := range [][]api.Op{nil, {put("k", "")}, {{}}} {
				wantNoApply(t, name, m, seq, l, want)
			}
			for _, key := range []string{"", "k", "\x00", text(65)} {
				wantNoGet(t, name, m, key, seq, want)
				wantNoRange(t, name, m, key, "", want)
				wantNoRange(t, name, m, "", key, want)
			}
		}
		if n, err := mem.Size(m); n != 0 || err != want {
			t.Errorf("%s: Size: %d, error %d, not %d", name, n, err, want)
		}
	})
}

// done is what was done to a key, from a number on.
type done struct {
	key string
	seq int
	x   api.Entry
}

// lastDone is what was put last under a key, up to a number, by what was done alone.
func lastDone(l []done, key string, seq int) (api.Entry, bool) {
	for _, d := range slices.Backward(l) {
		if d.key == key && d.seq <= seq {
			return d.x, true
		}
	}
	return api.Entry{}, false
}

func TestRowsOfBatches(t *testing.T) { // P11.5: what is got is what was put last, whatever is applied behind
	for seed := range int64(25) {
		r := rand.New(rand.NewSource(seed))
		var m api.Mem
		var l []done
		for seq := 1 + r.Intn(5); ; {
			ops := someOps(r, 1+r.Intn(64))
			if len(m.Entries)+len(ops) > 512 {
				wantNoApply(t, "no room", m, seq, ops, api.ErrMany)
				break
			}
			was := m
			m = applied(t, m, seq, ops...)
			if !same(m, plainApply(was, seq, ops)) || mem.Check(m) != api.OK {
				t.Fatalf("seed %d, from %d on: %v", seed, seq, m)
			}
			for i, op := range ops {
				l = append(l, done{op.Key, seq + i, api.Entry{Key: op.Key, Seq: seq + i, Dead: op.Dead, Value: op.Value}})
			}
			for _, x := range was.Entries { // what was there stays there
				wantGet(t, "stays", m, x.Key, x.Seq, x, true)
			}
			for range 60 {
				key, at := someOps(r, 1)[0].Key, r.Intn(seq+len(ops)+2)
				want, is := lastDone(l, key, at)
				wantGet(t, "seed", m, key, at, want, is)
				if at < seq { // up to there nothing has changed
					x, ok, err := mem.Get(was, key, at)
					if x != want || ok != is || err != api.OK {
						t.Errorf("seed %d: %q at %d: %v ahead of the batch, %v behind it", seed, key, at, x, want)
					}
				}
			}
			seq += len(ops) + r.Intn(3)
		}
	}
}

func TestRangesCutInTwo(t *testing.T) { // P11.5
	for seed := range int64(20) {
		r := rand.New(rand.NewSource(seed))
		m := applied(t, api.Mem{}, 1, someOps(r, 64)...)
		m = applied(t, m, 100, someOps(r, 64)...)
		keys := keysNear(m)
		for i, from := range keys {
			for j, to := range append(keys[i:len(keys):len(keys)], "") {
				whole, err := mem.Range(m, from, to)
				cut := keys[i+r.Intn(min(j, len(keys)-i-1)+1)]
				one, err1 := mem.Range(m, from, cut)
				two, err2 := mem.Range(m, cut, to)
				if err != api.OK || err1 != api.OK || err2 != api.OK || !slices.Equal(whole, append(one, two...)) {
					t.Fatalf("seed %d: from %q over %q to %q: %v, %v, %v", seed, from, cut, to, whole, one, two)
				}
			}
		}
	}
}
