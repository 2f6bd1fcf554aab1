package block_test

import (
	"bytes"
	"math"
	"math/rand"
	"slices"
	"strings"
	"testing"

	"millhand/api"
	"millhand/block"
)

func TestWrite(t *testing.T) { // P12.1
	want := []byte{3, 0, 2, 97, 98, 2, 0, 1, 120, 2, 0, 1, 1, 1, 1, 99, 7, 0, 0}
	if b, err := block.Write(example()); !bytes.Equal(b, want) || err != api.OK {
		t.Errorf("the example: %v, error %d", b, err)
	}
	for name, l := range good() {
		if b, err := block.Write(l); !bytes.Equal(b, plain(l)) || err != api.OK {
			t.Errorf("%s: %v, error %d, not %v", name, b, err, plain(l))
		}
	}
}

func TestWriteRefuses(t *testing.T) { // P12.1: errors, and which of several is told
	refused(func(name string, l []api.Entry, want api.Errno) {
		if b, err := block.Write(l); len(b) != 0 || err != want {
			t.Errorf("%s: %v, error %d, not %d", name, b, err, want)
		}
	})
}

func TestWriteHowMany(t *testing.T) { // P12.1, MaxTabled: at it and one more
	for _, n := range []int{0, 1, 2, 127, 128, 479, 480, 511, 512, 513, 1023, 1024, 1025, 1026, 2048} {
		for _, l := range [][]api.Entry{newest(n, "k"), newest(n, text(64)), keyed(n)} {
			b, err := block.Write(l)
			want, wantErr := plainWrite(l)
			if !bytes.Equal(b, want) || err != wantErr {
				t.Errorf("%d: error %d, not %d", n, err, wantErr)
			}
		}
	}
	if b, err := block.Write(most()); len(most()) != 510 || len(b) != 2047 || err != api.OK {
		t.Errorf("510, the most that have room: %d bytes, error %d", len(b), err)
	}
	if _, err := block.Write(append(most(), gone("f", 1))); err != api.ErrText {
		t.Errorf("511: error %d", err)
	}
	if _, err := block.Write(newest(api.MaxTabled+1, "k")); err != api.ErrMany {
		t.Errorf("one more than MaxTabled: error %d", err)
	}
	if _, err := block.Write(newest(api.MaxTabled, "k")); err != api.ErrText {
		t.Errorf("MaxTabled: error %d", err)
	}
}

func TestWriteHowLong(t *testing.T) { // P12.1, MaxBlock: at it and one more
	for many := 2040; many < 2056; many++ {
		l := sized(t, many)
		b, err := block.Write(l)
		if many <= api.MaxBlock && (err != api.OK || !bytes.Equal(b, plain(l))) {
			t.Errorf("%d bytes: error %d", many, err)
		}
		if many > api.MaxBlock && (err != api.ErrText || len(b) != 0) {
			t.Errorf("%d bytes: error %d", many, err)
		}
	}
}

func TestWriteFields(t *testing.T) { // P12.1: each field at its limits and one more
	for key := range 70 {
		for _, seq := range []int{math.MinInt, -1, 0, 1, 2, maxSeq - 1, maxSeq, maxSeq + 1, math.MaxInt} {
			for _, value := range []int{0, 1, 511, 512, 513} {
				for _, is := range []bool{false, true} {
					l := []api.Entry{{Key: text(key), Seq: seq, Dead: is, Value: text(value)}}
					b, err := block.Write(l)
					want, wantErr := plainWrite(l)
					if !bytes.Equal(b, want) || err != wantErr {
						t.Errorf("a key of %d, %d, a value of %d, %v: error %d, not %d", key, seq, value, is, err, wantErr)
					}
				}
			}
		}
	}
}

func TestWriteAllShortLists(t *testing.T) { // P12.1: all lists of up to four of some entries
	some := []api.Entry{e("a", 1, ""), e("a", 2, "x"), gone("a", 2), e("ab", 1, ""), gone("b", 1), e("b", 3, "y"), {}, e("ac", 300, "")}
	written := 0
	var grow func(l []api.Entry)
	grow = func(l []api.Entry) {
		b, err := block.Write(l)
		want, wantErr := plainWrite(l)
		if !bytes.Equal(b, want) || err != wantErr {
			t.Errorf("%v: %v, error %d", l, b, err)
		}
		if err == api.OK {
			written++
		}
		if len(l) == 4 {
			return
		}
		for _, x := range some {
			grow(append(slices.Clone(l), x))
		}
	}
	grow(nil)
	if written < 50 {
		t.Errorf("only %d were written", written)
	}
}

func TestCommon(t *testing.T) { // P12.1
	long := strings.Repeat("x", 100000)
	for _, c := range []struct {
		a, b string
		want int
	}{
		{"", "", 0},
		{"", "a", 0},
		{"a", "a", 1},
		{"a", "b", 0},
		{"a", "ab", 1},
		{"ab", "ac", 1},
		{"abc", "xbc", 0},
		{"abcd", "abxd", 2},
		{"\x00", "\x00\x00", 1},
		{"\xff\x80", "\xff\x81", 1},
		{"é", "ê", 1}, // bytes, not runes
		{"é", "é€", 2},
		{long, long, 100000},
		{long, long + "y", 100000},
		{long + "y", long + "z", 100000},
	} {
		if n := block.Common(c.a, c.b); n != c.want {
			t.Errorf("Common(%.9q, %.9q): %d, not %d", c.a, c.b, n, c.want)
		}
		if n := block.Common(c.b, c.a); n != c.want {
			t.Errorf("Common(%.9q, %.9q): %d, not %d", c.b, c.a, n, c.want)
		}
	}
}

func TestCommonOfChance(t *testing.T) { // P12.1: so many are the same, and the next one is not
	r := rand.New(rand.NewSource(12))
	some := func() string {
		b := make([]byte, r.Intn(12))
		for i := range b {
			b[i] = byte(r.Intn(2) * 255)
		}
		return string(b)
	}
	for range 20000 {
		a, b := some(), some()
		n := block.Common(a, b)
		if n < 0 || n > len(a) || n > len(b) || a[:n] != b[:n] || n < len(a) && n < len(b) && a[n] == b[n] {
			t.Fatalf("Common(%q, %q): %d", a, b, n)
		}
	}
}

func TestFind(t *testing.T) { // P12.2
	b := plain(example())
	for _, c := range []struct {
		key  string
		seq  int
		want api.Entry
		is   bool
	}{
		{"ab", 9, e("ab", 2, "x"), true},
		{"ab", 2, e("ab", 2, "x"), true},
		{"ab", maxSeq, e("ab", 2, "x"), true},
		{"ab", 1, gone("ab", 1), true},
		{"ab", 0, api.Entry{}, false},
		{"ac", 7, e("ac", 7, ""), true},
		{"ac", 6, api.Entry{}, false},
		{"aa", 9, api.Entry{}, false},
		{"a", 9, api.Entry{}, false},
		{"abc", 9, api.Entry{}, false},
		{"b", 9, api.Entry{}, false},
		{"\x00", maxSeq, api.Entry{}, false},
		{text(64), maxSeq, api.Entry{}, false},
	} {
		if x, is, err := block.Find(b, c.key, c.seq); x != c.want || is != c.is || err != api.OK {
			t.Errorf("Find(%q, %d): %v, %v, error %d", c.key, c.seq, x, is, err)
		}
	}
}

// asked are keys that stand among entries, and such as stand beside them.
func asked(l []api.Entry) (keys []string, seqs []int) {
	keys, seqs = []string{"a", "\x00", "\xff", text(64)}, []int{0, 1, maxSeq}
	for _, x := range l[:min(len(l), 40)] {
		keys = append(keys, x.Key, x.Key[:max(1, len(x.Key)-1)])
		if len(x.Key) < 64 {
			keys = append(keys, x.Key+"\x00")
		}
		seqs = append(seqs, x.Seq-1, x.Seq, min(x.Seq+1, maxSeq))
	}
	slices.Sort(keys)
	slices.Sort(seqs)
	return slices.Compact(keys), slices.Compact(seqs)
}

// wantFound asks a block for all that stands there, and for what stands beside it.
func wantFound(t *testing.T, what string, l []api.Entry) {
	t.Helper()
	keys, seqs := asked(l)
	if len(l) > 20 {
		seqs = seqs[:min(len(seqs), 8)]
	}
	b := plain(l)
	for _, key := range keys {
		for _, seq := range seqs {
			want, wantIs := plainFind(l, key, seq)
			if x, is, err := block.Find(b, key, seq); x != want || is != wantIs || err != api.OK {
				t.Errorf("%s: Find(%q, %d): %v, %v, error %d, not %v", what, key, seq, x, is, err, want)
			}
		}
	}
}

func TestFindAll(t *testing.T) { // P12.2, P12.4: of that key, at or below that number, and nothing between
	for name, l := range good() {
		wantFound(t, name, l)
	}
	wantFound(t, "2,048 bytes", sized(t, 2048))
	r := rand.New(rand.NewSource(122))
	for range 200 {
		if l := chance(r); len(plain(l)) <= 2048 {
			wantFound(t, "by chance", l)
		}
	}
}

func TestFindRefuses(t *testing.T) { // P12.2: errors, in their order
	for name, l := range good() {
		b := plain(l)
		for _, seq := range []int{math.MinInt, -1, 0, 1, maxSeq, maxSeq + 1, math.MaxInt} {
			for _, key := range []string{"", text(65), text(1 << 16), strings.Repeat("é", 33)} {
				if x, is, err := block.Find(b, key, seq); x != (api.Entry{}) || is || err != api.ErrText {
					t.Errorf("%s: a key of %d at %d: %v, %v, error %d", name, len(key), seq, x, is, err)
				}
			}
		}
		for _, seq := range []int{math.MinInt, math.MinInt32, -1, maxSeq + 1, 1 << 41, math.MaxInt} {
			for _, key := range []string{l[0].Key, "a", text(64)} {
				if x, is, err := block.Find(b, key, seq); x != (api.Entry{}) || is || err != api.ErrArg {
					t.Errorf("%s: %q at %d: %v, %v, error %d", name, key, seq, x, is, err)
				}
			}
		}
	}
}
