package batch_test

import (
	"bytes"
	"math"
	"math/rand"
	"slices"
	"testing"

	"millhand/api"
	"millhand/batch"
)

func TestRead(t *testing.T) { // P10.2, P10.4: what is written is read back as it was
	wantRead(t, "the chapter's", []byte{172, 2, 2, 0, 1, 97, 2, 120, 121, 1, 1, 98}, 300, []api.Op{put("a", "xy"), dead("b")})
	for name, l := range good() {
		for _, seq := range seqs() {
			wantRead(t, name, plain(uint64(seq), l), seq, l)
			b, e := batch.Write(seq, l)
			if e != api.OK {
				t.Fatalf("%s from %d on: error %d", name, seq, e)
			}
			wantRead(t, name+", written", b, seq, l)
		}
	}
}

func TestReadLength(t *testing.T) { // P10.2: MaxRecord bytes and one more, whatever they are
	for _, many := range []int{16383, 16384} {
		wantRead(t, "many bytes", plain(1, sized(t, many)), 1, sized(t, many))
	}
	for _, many := range []int{16385, 16386, 20000} {
		wantUnread(t, "too many bytes", plain(1, sized(t, many)), api.ErrText)
	}
	wantUnread(t, "64 of the longest", plain(1, full(64)), api.ErrText)
	for _, many := range []int{16383, 16384, 16385, 1 << 17} {
		want := api.ErrBad
		if many > 16384 {
			want = api.ErrText
		}
		for _, c := range []byte{0, 1, 2, 127, 128, 255} {
			wantUnread(t, "bytes of one kind", bytes.Repeat([]byte{c}, many), want)
			b := bytes.Repeat([]byte{c}, many)
			copy(b, plain(1, []api.Op{put("a", "x")}))
			wantUnread(t, "a batch, and bytes behind", b, want)
		}
	}
}

func TestReadBad(t *testing.T) { // P10.2: bytes that are no batch's
	one := []byte{0, 1, 97, 0}
	huge := bytes.Repeat([]byte{255}, 9)
	for name, b := range map[string][]byte{
		"no bytes":                             nil,
		"no bytes, not nil":                    {},
		"a number alone":                       {1},
		"a number and how many alone":          {1, 1},
		"no operations":                        {1, 0},
		"no operations, and one":               {1, 0, 0, 1, 97, 0},
		"no operations, in two bytes":          {1, 128, 0},
		"from 0 on":                            {0, 1, 0, 1, 97, 0},
		"from 0 on, in two bytes":              {128, 0, 1, 0, 1, 97, 0},
		"from 1 on, in two bytes":              {129, 0, 1, 0, 1, 97, 0},
		"one operation, in two bytes":          {1, 129, 0, 0, 1, 97, 0},
		"one operation, in three bytes":        {1, 129, 128, 0, 0, 1, 97, 0},
		"a key's length in two bytes":          {1, 1, 0, 129, 0, 97, 0},
		"a value's length in two bytes":        {1, 1, 0, 1, 97, 128, 0},
		"a value's length in two bytes, and 1": {1, 1, 0, 1, 97, 129, 0, 97},
		"a dead key's length in two bytes":     {1, 1, 1, 129, 0, 97},
		"a mark 2":                             {1, 1, 2, 1, 97, 0},
		"a mark 2, deleted":                    {1, 1, 2, 1, 97},
		"a mark 255":                           {1, 1, 255, 1, 97, 0},
		"a mark 128":                           {1, 1, 128, 1, 97, 0},
		"a mark of two bytes":                  {1, 1, 129, 0, 1, 97},
		"the second one's mark 2":              {1, 2, 0, 1, 97, 0, 2, 1, 97, 0},
		"no key":                               {1, 1, 0, 0, 0},
		"no key, deleted":                      {1, 1, 1, 0},
		"no key, a value":                      {1, 1, 0, 0, 1, 97},
		"the second one without a key":         {1, 2, 0, 1, 97, 0, 0, 0, 0},
		"no value":                             {1, 1, 0, 1, 97},
		"a value that is not there":            {1, 1, 0, 1, 97, 1},
		"a key that is not there":              {1, 1, 0, 1},
		"a dead key that is not there":         {1, 1, 1, 1},
		"a key longer than what is there":      {1, 1, 0, 3, 97, 0},
		"a dead key with a value":              {1, 1, 1, 1, 97, 1, 120},
		"a dead key with an empty value":       {1, 1, 1, 1, 97, 0},
		"a byte behind":                        {1, 1, 0, 1, 97, 0, 0},
		"an operation behind":                  {1, 1, 0, 1, 97, 0, 0, 1, 97, 0},
		"a batch behind":                       {1, 1, 0, 1, 97, 0, 1, 1, 0, 1, 97, 0},
		"two, one of them there":               {1, 2, 0, 1, 97, 0},
		"64, one of them there":                {1, 64, 0, 1, 97, 0},
		"65, one of them there":                {1, 65, 0, 1, 97, 0},
		"65 alone":                             {1, 65},
		"a number that does not end":           bytes.Repeat([]byte{128}, 100),
		"a number of more than 64 bits":        append(append(slices.Clone(huge), 2, 1), one...),
		"more operations than 64 bits":         append(append([]byte{1}, append(slices.Clone(huge), 2)...), one...),
	} {
		wantUnread(t, name, b, api.ErrBad)
	}
}

func TestReadNumbers(t *testing.T) { // P10.2: the numbers of a batch at their limits, and such as wrap
	l := []api.Op{put("a", "x")}
	for _, n := range []uint64{
		0, last + 1, last + 63, last + 64, 1<<40 + 1, 1 << 41, 1<<62 + 1, 1 << 63, 1<<63 + 1, 1<<63 + last,
		math.MaxUint64, math.MaxUint64 - last, math.MaxInt64,
	} {
		wantUnread(t, "too great a number, or 0", plain(n, l), api.ErrBad)
	}
	tail := plain(1, l)[2:]
	for _, n := range []uint64{0, 2, 63, 64, 65, 127, 128, 257, 1<<16 + 1, 1<<32 + 1, 1<<40 + 1, 1<<63 + 1, 1 << 63, math.MaxUint64, math.MaxInt64} {
		wantUnread(t, "another number of operations", slices.Concat([]byte{1}, number(n), tail), api.ErrBad)
	}
	for _, n := range []uint64{0, 2, 3, 64, 65, 127, 128, 1<<8 + 1, 1<<16 + 1, 1<<32 + 1, 1<<63 + 1, 1 << 63, math.MaxUint64, math.MaxInt64} {
		wantUnread(t, "another length of the key", slices.Concat([]byte{1, 1, 0}, number(n), []byte{97, 0}), api.ErrBad)
		wantUnread(t, "another length of the value", slices.Concat([]byte{1, 1, 0, 1, 97}, number(max(n, 2)), []byte{97}), api.ErrBad)
		wantUnread(t, "another length of the dead key", slices.Concat([]byte{1, 1, 1}, number(n), []byte{97}), api.ErrBad)
	}
}

func TestReadWhatMayNotBe(t *testing.T) { // P10.2, P10.4: bytes written well of what is no batch
	for name, op := range bad() {
		if op.Dead && op.Key != "" && len(op.Key) <= 64 {
			continue // its bytes are those of a key deleted: the value isn't among them
		}
		for _, l := range placed(op) {
			b, want := plain(1, l), api.ErrBad
			if len(b) > api.MaxRecord {
				want = api.ErrText
			}
			wantUnread(t, name, b, want)
		}
	}
	for name, l := range tooMany() {
		b, want := plain(1, l), api.ErrBad
		if len(b) > api.MaxRecord {
			want = api.ErrText
		}
		wantUnread(t, name, b, want)
	}
}

func TestReadPart(t *testing.T) { // P10.4: no beginning is a batch, nor what goes on behind the end
	for name, l := range good() {
		b := plain(300, l)
		for n := range b {
			wantUnread(t, name+", cut short", b[:n], api.ErrBad)
		}
		for c := range 256 {
			if len(b) < api.MaxRecord {
				wantUnread(t, name+", a byte behind", append(slices.Clone(b), byte(c)), api.ErrBad)
			}
		}
	}
}

// wantReadBack tells whether bytes are read; if so, they are those of what is read, which may be.
func wantReadBack(t *testing.T, b []byte) bool {
	t.Helper()
	seq, l, e := batch.Read(b)
	switch {
	case e == api.OK && (seq < 1 || seq > last || !plainMayBe(l) || !bytes.Equal(plain(uint64(seq), l), b)):
		t.Fatalf("Read(%v): %d, %v, whose bytes these are not, or that may not be", b, seq, l)
	case e != api.OK && (e != api.ErrBad || seq != 0 || len(l) != 0):
		t.Fatalf("Read(%v): %d, %v, error %d", b, seq, l, e)
	}
	return e == api.OK
}

func TestReadChanged(t *testing.T) { // P10.2, P10.4: with one byte changed, it is refused, or the batch whose bytes these are
	for _, l := range [][]api.Op{{put("a", "xy"), dead("b")}, {put(text(64), text(200)), dead("c"), put("d", "")}} {
		for _, seq := range []uint64{1, 300, last} {
			b := plain(seq, l)
			for i := range b {
				for c := range 256 {
					x := slices.Clone(b)
					x[i] = byte(c)
					wantReadBack(t, x)
				}
				wantReadBack(t, slices.Delete(slices.Clone(b), i, i+1))
			}
		}
	}
}

// next counts on, the last place first, and tells whether there was one more.
func next(places []int, base int) bool {
	for i := len(places) - 1; i >= 0; i-- {
		places[i]++
		if places[i] < base {
			return true
		}
		places[i] = 0
	}
	return false
}

// small are the bytes of all batches of up to two operations that are made out of a few bytes, 129 the only one of them above 3, and have at most most.
func small(alphabet []byte, most int) map[string]bool {
	texts := []string{""}
	for size := 1; size <= most-4; size++ {
		places := make([]int, size)
		for more := true; more; more = next(places, len(alphabet)) {
			var s []byte
			for _, p := range places {
				s = append(s, alphabet[p])
			}
			texts = append(texts, string(s))
		}
	}
	var ops []api.Op
	for _, k := range texts {
		ops = append(ops, dead(k))
		for _, v := range texts {
			if len(k)+len(v) <= most-5 {
				ops = append(ops, put(k, v))
			}
		}
	}
	out := map[string]bool{}
	add := func(l ...api.Op) {
		for low, place := uint64(0), 0; place < most; place++ { // numbers whose bytes are 129 again and again, and then one below
			for digit := range uint64(3) {
				if b := plain(low+(digit+1)<<(7*place), l); plainMayBe(l) && len(b) <= most {
					out[string(b)] = true
				}
			}
			low += 1 << (7 * place)
		}
	}
	for _, a := range ops {
		add(a)
		for _, b := range ops {
			if len(a.Key)+len(a.Value)+len(b.Key)+len(b.Value) <= most-6 {
				add(a, b)
			}
		}
	}
	return out
}

func TestReadAllShort(t *testing.T) { // P10.2, P10.4: all rows of up to eight bytes out of a few are read just where a batch has them
	alphabet := []byte{0, 1, 2, 3, 129}
	known := small(alphabet, 8)
	found := 0
	for size := range 9 {
		places := make([]int, size)
		for more := true; more; more = next(places, len(alphabet)) {
			b := make([]byte, size)
			for i, p := range places {
				b[i] = alphabet[p]
			}
			is := wantReadBack(t, b)
			if is != known[string(b)] {
				t.Fatalf("Read(%v): read: %v", b, is)
			}
			if is {
				found++
			}
		}
	}
	if found < 2000 {
		t.Errorf("only %d were read", found)
	}
}

// chance is a batch that a seed tells.
func chance(r *rand.Rand) []api.Op {
	some := func(most int) string {
		b := make([]byte, r.Intn(most+1))
		r.Read(b)
		return string(b)
	}
	l := make([]api.Op, 1+r.Intn(64))
	most := []int{3, 30, 200, 512}[r.Intn(4)]
	for i := range l {
		l[i] = api.Op{Key: string(byte(r.Intn(128))) + some(min(most, 63)), Dead: r.Intn(3) == 0}
		if !l[i].Dead {
			v := some(most) + some(most)
			l[i].Value = v[:min(len(v), 512)]
		}
	}
	return l
}

func TestThereAndBack(t *testing.T) { // P10.4, W6: batches of all kinds, and what is near to them
	r := rand.New(rand.NewSource(10))
	written, tooLong := 0, 0
	for range 3000 {
		l, seq := chance(r), 1+r.Intn(last)
		b, e := batch.Write(seq, l)
		if p := plain(uint64(seq), l); len(p) > api.MaxRecord {
			if e != api.ErrText || len(b) != 0 {
				t.Fatalf("%d bytes are written: error %d", len(p), e)
			}
			wantUnread(t, "too long", p, api.ErrText)
			tooLong++
			continue
		}
		written++
		if e != api.OK || !bytes.Equal(b, plain(uint64(seq), l)) {
			t.Fatalf("Write(%d, %v): %v, error %d", seq, l, b, e)
		}
		wantRead(t, "written", b, seq, l)
		wantReadBack(t, b[:r.Intn(len(b))])
		for range 5 {
			x := slices.Clone(b)
			x[r.Intn(len(x))] ^= 1 << r.Intn(8)
			wantReadBack(t, x)
		}
	}
	if written < 500 || tooLong < 100 {
		t.Errorf("only %d were written, %d too long", written, tooLong)
	}
}
