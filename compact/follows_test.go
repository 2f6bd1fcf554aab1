package compact_test

import (
	"fmt"
	"math/rand"
	"slices"
	"strconv"
	"testing"

	"millhand/api"
	"millhand/compact"
	"millhand/dev"
	"millhand/fs"
	"millhand/manifest"
	memory "millhand/mem"
	"millhand/merge"
	"millhand/mount"
	"millhand/pick"
)

// alive is all that is alive of a house's tables, and of what is in memory, at a number.
func alive(t *testing.T, h house, m api.Mem, seq int) []api.Entry {
	t.Helper()
	rows := ok[[][]api.Entry](t)(compact.Rows(h.f, slices.Concat(h.v.Levels...)))
	all := ok[[]api.Entry](t)(merge.Rows(append(rows, m.Entries)))
	return ok[[]api.Entry](t)(merge.Live(all, seq))
}

// wantSame wants the same to be alive at all numbers from oldest to the newest one and behind it.
func wantSame(t *testing.T, name string, a house, m api.Mem, b house, n api.Mem, oldest, newest int) {
	t.Helper()
	for _, seq := range append(numbers(oldest, newest), newest+1, maxSeq) {
		if x, y := alive(t, a, m, seq), alive(t, b, n, seq); !slices.Equal(x, y) {
			t.Fatalf("%s: at %d there was %s, and is %s", name, seq, short(x), short(y))
		}
	}
}

// numbers are some from one to another one.
func numbers(from, to int) (l []int) {
	for n := from; n <= to; n += 1 + (to-from)/12 {
		l = append(l, n)
	}
	return l
}

func TestSeenBehindCompact(t *testing.T) { // P19.7: of what is picked of any house whose levels are older the lower they are
	done, dropped := 0, 0
	for seed := range int64(120) {
		r := rand.New(rand.NewSource(seed))
		h := anyHouse(t, r)
		for range 4 {
			w, err := pick.Pick(h.v)
			if err != api.OK {
				w = whole(h.v, r.Intn(3))
			}
			oldest := r.Intn(350)
			g, x, err := compact.Compact(h.f, h.v, w, oldest)
			if err != api.OK {
				t.Fatalf("seed %d: error %d", seed, err)
			}
			wantSame(t, fmt.Sprint("seed ", seed), h, api.Mem{}, house{g, x}, api.Mem{}, oldest, 310)
			done++
			if entries(x) < entries(h.v) {
				dropped++
			}
			h = house{g, x}
		}
	}
	if dropped < done/10 {
		t.Errorf("%d of %d dropped something", dropped, done)
	}
}

// whole is a level's compaction as it would be picked, if it were too full: of level 0 all tables, of another one its first, and all that meet them.
func whole(v api.Version, level int) api.Work {
	w := api.Work{Level: level, Upper: v.Levels[level]}
	if level > 0 {
		w.Upper = w.Upper[:min(1, len(w.Upper))]
	}
	for _, m := range v.Levels[level+1] {
		if len(w.Upper) > 0 && m.High >= least(w.Upper) && m.Low <= greatest(w.Upper) {
			w.Lower = append(w.Lower, m)
		}
	}
	return w
}

func least(l []api.Meta) string {
	return slices.MinFunc(l, func(a, b api.Meta) int { return compare(a.Low, b.Low) }).Low
}

func greatest(l []api.Meta) string {
	return slices.MaxFunc(l, func(a, b api.Meta) int { return compare(a.High, b.High) }).High
}

func compare(a, b string) int {
	switch {
	case a < b:
		return -1
	case a > b:
		return 1
	}
	return 0
}

// entries is how many a version's tables have.
func entries(v api.Version) (n int) {
	for _, m := range slices.Concat(v.Levels...) {
		n += m.Many
	}
	return n
}

func TestSeenBehindFlush(t *testing.T) { // P19.7
	for seed := range int64(120) {
		r := rand.New(rand.NewSource(seed))
		h := anyHouse(t, r)
		m := mem(anyRow(r, 1+r.Intn(80), 12, r.Intn(200), 90)...)
		for i := range m.Entries {
			m.Entries[i].Seq += 310
		}
		oldest := r.Intn(420)
		g, w, err := compact.Flush(h.f, h.v, m, oldest)
		if err != api.OK {
			t.Fatalf("seed %d: error %d", seed, err)
		}
		wantSame(t, fmt.Sprint("seed ", seed), h, m, house{g, w}, api.Mem{}, oldest, 410)
	}
}

// life is a house, what is in memory, and all that was ever done.
type life struct {
	house
	m       api.Mem
	history []api.Entry
	seq     int
	oldest  int
}

// do puts and deletes some keys.
func (x *life) do(t *testing.T, r *rand.Rand) {
	var l []api.Op
	for range 1 + r.Intn(8) {
		op := api.Op{Key: "k" + strconv.Itoa(r.Intn(30)), Value: text(r.Intn(120))}
		if r.Intn(3) == 0 {
			op = api.Op{Key: op.Key, Dead: true}
		}
		l = append(l, op)
	}
	x.m = ok[api.Mem](t)(memory.Apply(x.m, x.seq+1, l))
	for i, op := range l {
		x.history = append(x.history, api.Entry{Key: op.Key, Seq: x.seq + 1 + i, Dead: op.Dead, Value: op.Value})
	}
	x.seq += len(l)
}

func (x *life) flush(t *testing.T) {
	f, v, err := compact.Flush(x.f, x.v, x.m, x.oldest)
	if err != api.OK || v.Seq != x.seq {
		t.Fatalf("Flush: error %d, Seq %d, not %d", err, v.Seq, x.seq)
	}
	x.f, x.v, x.m = f, v, api.Mem{}
}

func (x *life) compact(t *testing.T, r *rand.Rand) {
	for need, err := pick.Need(x.v); need && err == api.OK; need, err = pick.Need(x.v) {
		x.work(t, ok[api.Work](t)(pick.Pick(x.v)))
	}
	if level := r.Intn(9); level == 1 || level == 2 { // as if it were too full
		x.work(t, whole(x.v, level))
	}
}

func (x *life) work(t *testing.T, w api.Work) {
	f, v, err := compact.Compact(x.f, x.v, w, x.oldest)
	if err != api.OK {
		t.Fatalf("Compact: error %d", err)
	}
	x.f, x.v = f, v
}

// keep commits the version, and finds all of it again behind a loss of power.
func (x *life) keep(t *testing.T) {
	g := committed(t, ok[api.Fs](t)(manifest.Save(x.f, x.v)))
	x.f = ok[api.Fs](t)(mount.Open(ok[api.Disk](t)(dev.Crash(g.Disk, nil))))
	if v := ok[api.Version](t)(manifest.Load(x.f)); !sameVersion(v, x.v) {
		t.Fatalf("%v is loaded, not %v", v, x.v)
	}
}

// look wants to be seen what was done.
func (x *life) look(t *testing.T, name string) {
	for _, seq := range append(numbers(x.oldest, x.seq), x.seq, x.seq+1) {
		var want []api.Entry
		for i := range 30 {
			if y := plainSeen(x.history, "k"+strconv.Itoa(i), seq); y.Seq > 0 && !y.Dead {
				want = append(want, y)
			}
		}
		if got := alive(t, x.house, x.m, seq); !slices.Equal(got, sorted(want)) {
			t.Fatalf("%s: at %d there is %s, not %s", name, seq, short(got), short(sorted(want)))
		}
	}
	wantTold(t, name, x.house)
	if names := ok[[]string](t)(fs.Names(x.f)); len(names) > len(slices.Concat(x.v.Levels...))+3 {
		t.Fatalf("%s: files that nobody tells of: %q", name, names)
	}
}

func TestLife(t *testing.T) { // P19.7: flushes and compactions, again and again
	var deepest [4]int
	for seed := range int64(6) {
		r := rand.New(rand.NewSource(seed))
		x := &life{house: empty(t, 900)}
		x.v.Seq = 0
		for round := range 45 {
			for range 1 + r.Intn(6) {
				x.do(t, r)
			}
			if r.Intn(3) > 0 {
				x.oldest = max(x.oldest, x.seq-r.Intn(60))
			}
			x.flush(t)
			x.compact(t, r)
			if round%5 == 0 {
				x.keep(t)
			}
			x.look(t, fmt.Sprintf("seed %d, round %d", seed, round))
			for i, l := range x.v.Levels {
				deepest[i] = max(deepest[i], len(l))
			}
		}
	}
	if slices.Contains(deepest[:], 0) {
		t.Errorf("so many tables in each level at most: %v", deepest)
	}
}
