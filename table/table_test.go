package table_test

import (
	"bytes"
	"math"
	"math/rand"
	"slices"
	"strings"
	"testing"

	"millhand/api"
	"millhand/table"
)

func TestExamples(t *testing.T) { // the chapter's
	b, m, err := table.Build(example())
	want := []byte{
		2, 0, 1, 97, 2, 0, 1, 120, 0, 1, 98, 1, 1,
		0, 16, 0, 2, 96, 0, 12, 128,
		1, 1, 98, 13,
		13, 0, 0, 0, 8, 0, 0, 0, 2, 0, 0, 0,
	}
	if !bytes.Equal(b, want) || err != api.OK {
		t.Errorf("Build: %v, error %d", b, err)
	}
	if m != (api.Meta{Size: 37, Many: 2, Low: "a", High: "b"}) {
		t.Errorf("how it is: %v", m)
	}
	for _, c := range []struct {
		key  string
		seq  int
		want api.Entry
		is   bool
	}{{"a", 5, e("a", 2, "x"), true}, {"b", 5, gone("b", 1), true}, {"a", 1, api.Entry{}, false}, {"c", 5, api.Entry{}, false}} {
		if x, is, err := table.Get(b, c.key, c.seq); x != c.want || is != c.is || err != api.OK {
			t.Errorf("Get(%s, %d): %v, %v, error %d", c.key, c.seq, x, is, err)
		}
	}
	for _, c := range []struct {
		from, to string
		want     []api.Entry
	}{{"", "b", []api.Entry{e("a", 2, "x")}}, {"b", "", []api.Entry{gone("b", 1)}}, {"c", "a", nil}} {
		if l, err := table.Range(b, c.from, c.to); !slices.Equal(l, c.want) || err != api.OK {
			t.Errorf("Range(%s, %s): %v, error %d", c.from, c.to, l, err)
		}
	}
	if b, m, err := table.Build(nil); len(b) != 0 || m != (api.Meta{}) || err != api.ErrMany {
		t.Errorf("Build(none): %v, %v, error %d", b, m, err)
	}
	if l, err := table.Read(nil); len(l) != 0 || err != api.ErrBad {
		t.Errorf("Read(none): %v, error %d", l, err)
	}
	if x, is, err := table.Get(b, "", 1); x != (api.Entry{}) || is || err != api.ErrText {
		t.Errorf("Get(T, empty, 1): %v, %v, error %d", x, is, err)
	}
}

func TestBuildByHand(t *testing.T) { // P14.1: two blocks that share a key, written out: it is in the sieve once, in the index twice
	v := strings.Repeat("v", 510)
	b := built(t, []api.Entry{e("a", 300, v), e("a", 2, v)})
	block := func(seq ...byte) []byte {
		return slices.Concat([]byte{1, 0, 1, 97}, seq, []byte{0, 254, 3}, []byte(v))
	}
	want := slices.Concat(block(172, 2), block(2),
		[]byte{0, 16, 0, 2, 64, 0, 8, 0},
		[]byte{2, 1, 97, 135, 4, 1, 97, 134, 4},
		[]byte{13, 4, 0, 0, 8, 0, 0, 0, 2, 0, 0, 0})
	if !bytes.Equal(b, want) {
		t.Errorf("%v, not %v", b, want)
	}
}

func TestBuild(t *testing.T) { // P14.1
	for name, l := range good() {
		if wantBuilt(t, name, l) != api.OK {
			t.Errorf("%s: it has no table", name)
		}
	}
}

func TestBuildRefuses(t *testing.T) { // P14.1: MaxTabled, MaxKey, MaxSeq, and which error is told
	refused(func(name string, l []api.Entry, want api.Errno) {
		if b, m, err := table.Build(l); len(b) != 0 || m != (api.Meta{}) || err != want {
			t.Errorf("%s: %d bytes, %v, error %d, not %d", name, len(b), m, err, want)
		}
	})
}

func TestBuildHowLong(t *testing.T) { // P14.1, MaxTable: at it, and one more
	for size := 16370; size < 16400; size++ {
		l := sized(t, size)
		want := api.OK
		if size > api.MaxTable {
			want = api.ErrText
		}
		if err := wantBuilt(t, "many bytes", l); err != want {
			t.Errorf("%d bytes: error %d, not %d", size, err, want)
		}
	}
}

func TestBuildHowMany(t *testing.T) { // P14.1, MaxTabled: each number of entries
	for n := 1; n <= 1026; n++ {
		l := newest(n, "k")
		b, m, err := table.Build(l)
		if n > api.MaxTabled {
			if len(b) != 0 || m != (api.Meta{}) || err != api.ErrMany {
				t.Errorf("%d entries: %d bytes, error %d", n, len(b), err)
			}
			continue
		}
		if m != (api.Meta{Size: len(b), Many: n, Low: "k", High: "k"}) || err != api.OK {
			t.Errorf("%d entries: %v, error %d", n, m, err)
		}
		wantRead(t, "so many", b, l)
	}
}

func TestBlocksHowLong(t *testing.T) { // P14.1: a block of 1,024 bytes is one, of 1,025 it is cut
	for size := 1010; size < 1038; size++ {
		for _, more := range [][]api.Entry{nil, {gone("b", 1)}, keyed(200, "")} {
			l := append(blockOf(t, size), more...)
			wantBuilt(t, "blocks", l)
			first := plainCut(l)[0]
			if (size <= 1024) != (len(first) >= 2) {
				t.Errorf("%d bytes: a first block of %d entries", size, len(first))
			}
			wantRead(t, "blocks", built(t, l), l)
		}
	}
}

func TestBlocksCount(t *testing.T) { // P14.1: how many entries a block has takes two bytes from 128 on, which count for what fits
	seen := make(map[int]int)
	for value := range 512 {
		l := append(newest(127, "k"), e("l", 1, ""))
		l[0] = e("k", 127, text(value))
		wantBuilt(t, "127 and one", l)
		if whole := len(plainBlock(l)); whole >= 1023 && whole <= 1026 {
			seen[whole] = len(plainCut(l)[0])
			wantRead(t, "127 and one", built(t, l), l)
		}
	}
	if seen[1023] != 128 || seen[1024] != 128 || seen[1025] != 127 || seen[1026] != 127 {
		t.Errorf("so many fit, by the bytes of all: %v", seen)
	}
}

func TestBuildAllShort(t *testing.T) { // P14.1: all lists of up to four out of a few
	some := []api.Entry{e("a", 1, ""), e("a", 2, text(500)), gone("a", 2), e("ab", 1, text(512)), gone("b", 1), e("b", 3, "y"), {}, e("ac", 300, "")}
	had := 0
	var grow func(l []api.Entry)
	grow = func(l []api.Entry) {
		if wantBuilt(t, "short", l) == api.OK {
			had++
			wantRead(t, "short", built(t, l), l)
		}
		if len(l) == 4 {
			return
		}
		for _, x := range some {
			grow(append(slices.Clone(l), x))
		}
	}
	grow(nil)
	if had < 50 {
		t.Errorf("only %d were built", had)
	}
}

func TestBuildOfChance(t *testing.T) { // P14.1, P14.4, W6
	r := rand.New(rand.NewSource(114))
	had, tooLong := 0, 0
	for range 1500 {
		l := chance(r)
		switch wantBuilt(t, "by chance", l) {
		case api.OK:
			had++
			wantRead(t, "by chance", built(t, l), l)
		case api.ErrText:
			tooLong++
		}
	}
	if had < 800 || tooLong < 50 {
		t.Errorf("only %d were built, %d too long", had, tooLong)
	}
}

// asked are keys that stand among entries, and such as stand beside them, some of them, as there are many.
func asked(l []api.Entry) (keys []string, seqs []int) {
	keys, seqs = []string{"a", "\x00", "\xff", text(64)}, []int{0, 1, maxSeq}
	for i, x := range l {
		if i > 2 && i < len(l)-2 && i%(len(l)/8+1) > 0 {
			continue
		}
		keys = append(keys, x.Key, x.Key[:max(1, len(x.Key)-1)])
		if len(x.Key) < 64 {
			keys = append(keys, x.Key+"\x00")
		}
		seqs = append(seqs, x.Seq-1, x.Seq, min(x.Seq+1, maxSeq))
	}
	slices.Sort(keys)
	slices.Sort(seqs)
	keys, seqs = slices.Compact(keys), slices.Compact(seqs)
	for len(seqs) > 6 {
		seqs = slices.Delete(seqs, len(seqs)/2, len(seqs)/2+1)
	}
	return keys, seqs
}

// wantFound asks a table for what stands there, and for what stands beside it.
func wantFound(t *testing.T, what string, l []api.Entry) {
	t.Helper()
	keys, seqs := asked(l)
	b := plain(l)
	for _, key := range keys {
		for _, seq := range seqs {
			want, wantIs := plainGet(l, key, seq)
			if x, is, err := table.Get(b, key, seq); x != want || is != wantIs || err != api.OK {
				t.Errorf("%s: Get(%q, %d): %v, %v, error %d, not %v", what, key, seq, x, is, err, want)
			}
		}
	}
	keys = append(keys, "")
	for i, from := range keys {
		for _, to := range []string{"", from, keys[(i+1)%len(keys)], keys[(i*7+3)%len(keys)]} {
			want := plainRange(l, from, to)
			if part, err := table.Range(b, from, to); !slices.Equal(part, want) || err != api.OK {
				t.Errorf("%s: Range(%q, %q): %d entries, error %d, not %d", what, from, to, len(part), err, len(want))
			}
		}
	}
}

func TestGetAndRange(t *testing.T) { // P14.2, P14.4: they tell what the entries tell
	for name, l := range good() {
		wantFound(t, name, l)
	}
	wantFound(t, "16,384 bytes", sized(t, 16384))
	r := rand.New(rand.NewSource(214))
	for range 60 {
		if l := chance(r); len(plain(l)) <= api.MaxTable {
			wantFound(t, "by chance", l)
		}
	}
}

func TestGetEach(t *testing.T) { // P14.2: each entry of many blocks at its number, and the next one of its key below it
	l := mixed(300, 60)
	b := plain(l)
	for i, x := range l {
		if y, is, err := table.Get(b, x.Key, x.Seq); y != x || !is || err != api.OK {
			t.Errorf("%v: %v, %v, error %d", x, y, is, err)
		}
		want, wantIs := api.Entry{}, i+1 < len(l) && l[i+1].Key == x.Key
		if wantIs {
			want = l[i+1]
		}
		if y, is, err := table.Get(b, x.Key, x.Seq-1); y != want || is != wantIs || err != api.OK {
			t.Errorf("below %v: %v, %v, error %d", x, y, is, err)
		}
	}
}

func TestGetRefuses(t *testing.T) { // P14.2: errors, in their order; MaxKey, MaxSeq
	for _, name := range []string{"the example", "the longest keys", "some, mixed"} {
		l := good()[name]
		b := plain(l)
		for _, seq := range []int{math.MinInt, -1, 0, 1, maxSeq, maxSeq + 1, math.MaxInt} {
			for _, key := range []string{"", text(65), text(1 << 16), strings.Repeat("é", 33)} {
				if x, is, err := table.Get(b, key, seq); x != (api.Entry{}) || is || err != api.ErrText {
					t.Errorf("%s: a key of %d at %d: %v, %v, error %d", name, len(key), seq, x, is, err)
				}
			}
		}
		for _, seq := range []int{math.MinInt, math.MinInt32, -1, maxSeq + 1, 1 << 41, math.MaxInt} {
			for _, key := range []string{l[0].Key, "a", text(64)} {
				if x, is, err := table.Get(b, key, seq); x != (api.Entry{}) || is || err != api.ErrArg {
					t.Errorf("%s: %q at %d: %v, %v, error %d", name, key, seq, x, is, err)
				}
			}
		}
	}
}

func TestRangeRefuses(t *testing.T) { // P14.2: MaxKey, of both; an empty one is none too short
	b := plain(example())
	for _, long := range []string{text(65), text(1 << 16), strings.Repeat("é", 33)} {
		for _, other := range []string{"", "a", text(64), text(65)} {
			for _, q := range [][2]string{{long, other}, {other, long}} {
				if l, err := table.Range(b, q[0], q[1]); len(l) != 0 || err != api.ErrText {
					t.Errorf("from %d bytes to %d: %v, error %d", len(q[0]), len(q[1]), l, err)
				}
			}
		}
	}
	for _, q := range [][2]string{{"", ""}, {"", text(64)}, {text(64), ""}, {text(64), text(64)}} {
		if l, err := table.Range(b, q[0], q[1]); !slices.Equal(l, plainRange(example(), q[0], q[1])) || err != api.OK {
			t.Errorf("from %d bytes to %d: %v, error %d", len(q[0]), len(q[1]), l, err)
		}
	}
}
