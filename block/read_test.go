package block_test

import (
	"bytes"
	"math"
	"math/rand"
	"slices"
	"testing"

	"millhand/api"
	"millhand/block"
)

func TestRead(t *testing.T) { // P12.1, P12.4: what is written is read back as it was
	wantRead(t, "the chapter's", []byte{3, 0, 2, 97, 98, 2, 0, 1, 120, 2, 0, 1, 1, 1, 1, 99, 7, 0, 0}, example())
	for name, l := range good() {
		wantRead(t, name, plain(l), l)
		b, err := block.Write(l)
		if err != api.OK {
			t.Fatalf("%s: error %d", name, err)
		}
		wantRead(t, name+", written", b, l)
	}
}

func TestReadHowLong(t *testing.T) { // P12.1, MaxBlock: at it and one more, whatever they are
	for _, many := range []int{2046, 2047, 2048} {
		wantRead(t, "many bytes", plain(sized(t, many)), sized(t, many))
	}
	for _, many := range []int{2049, 2050, 2055} {
		wantUnread(t, "too many bytes", plain(sized(t, many)), api.ErrText)
	}
	for _, many := range []int{2047, 2048, 2049, 1 << 17} {
		want := api.ErrBad
		if many > api.MaxBlock {
			want = api.ErrText
		}
		for _, c := range []byte{0, 1, 2, 127, 128, 255} {
			b := bytes.Repeat([]byte{c}, many)
			wantUnread(t, "bytes of one kind", b, want)
			copy(b, plain(example()))
			wantUnread(t, "a block, and bytes behind", b, want)
		}
	}
}

func TestReadBad(t *testing.T) { // P12.1: bytes that are no block
	for name, b := range map[string][]byte{
		"no bytes":                           nil,
		"no bytes, not nil":                  {},
		"no entries":                         {0},
		"no entries, and one":                {0, 0, 1, 97, 1, 0, 0},
		"no entries, in two bytes":           {128, 0},
		"how many alone":                     {1},
		"no key":                             {1, 0, 0, 1, 0, 0},
		"no key, deleted":                    {1, 0, 0, 1, 1},
		"common with nothing":                {1, 1, 0, 1, 0, 0},
		"common with nothing, and a rest":    {1, 1, 1, 97, 1, 0, 0},
		"the number 0":                       {1, 0, 1, 97, 0, 0, 0},
		"the number 0, deleted":              {1, 0, 1, 97, 0, 1},
		"a mark 2":                           {1, 0, 1, 97, 1, 2, 0},
		"a mark 2, deleted":                  {1, 0, 1, 97, 1, 2},
		"a mark 255":                         {1, 0, 1, 97, 1, 255, 0},
		"a mark 128, 0":                      {1, 0, 1, 97, 1, 128, 0, 0},
		"a mark of two bytes":                {1, 0, 1, 97, 1, 129, 0},
		"the second one's mark 2":            {2, 0, 1, 97, 2, 1, 1, 0, 1, 2, 0},
		"no mark":                            {1, 0, 1, 97, 1},
		"no value":                           {1, 0, 1, 97, 1, 0},
		"a value that is not there":          {1, 0, 1, 97, 1, 0, 1},
		"a dead one with a value":            {1, 0, 1, 97, 1, 1, 1, 120},
		"a dead one with an empty value":     {1, 0, 1, 97, 1, 1, 0},
		"one, in two bytes":                  {129, 0, 0, 1, 97, 1, 0, 0},
		"common 0, in two bytes":             {1, 128, 0, 1, 97, 1, 0, 0},
		"a rest's length in two bytes":       {1, 0, 129, 0, 97, 1, 0, 0},
		"a number in two bytes":              {1, 0, 1, 97, 129, 0, 0, 0},
		"a value's length in two bytes":      {1, 0, 1, 97, 1, 0, 128, 0},
		"common 1, in two bytes":             {2, 0, 1, 97, 2, 1, 129, 0, 0, 1, 1},
		"a byte behind":                      {1, 0, 1, 97, 1, 0, 0, 0},
		"a byte behind a dead one":           {1, 0, 1, 97, 1, 1, 1},
		"an entry behind":                    {1, 0, 1, 97, 2, 1, 1, 0, 1, 1},
		"a block behind":                     {1, 0, 1, 97, 1, 1, 1, 0, 1, 97, 1, 1},
		"two, one of them there":             {2, 0, 1, 97, 1, 1},
		"less common than there is":          {2, 0, 2, 97, 98, 2, 1, 1, 1, 98, 1, 1},
		"nothing common, though there is":    {2, 0, 1, 97, 2, 1, 0, 1, 97, 1, 1},
		"less common, and another end":       {2, 0, 2, 97, 98, 2, 1, 0, 2, 97, 99, 1, 1},
		"more common than the one ahead has": {2, 0, 1, 97, 2, 1, 2, 0, 1, 1},
		"more common, and a rest":            {2, 0, 1, 97, 2, 1, 2, 1, 98, 1, 1},
		"a key that falls by its end":        {2, 0, 2, 97, 98, 1, 1, 1, 1, 97, 1, 1},
		"a key that falls by being cut":      {2, 0, 2, 97, 98, 2, 1, 1, 0, 1, 1},
		"a key that falls to none":           {2, 0, 1, 97, 2, 1, 0, 0, 1, 1},
		"a key that falls":                   {2, 0, 1, 98, 2, 1, 0, 1, 97, 1, 1},
		"a number that rises":                {2, 0, 1, 97, 1, 1, 1, 0, 2, 1},
		"a number once more":                 {2, 0, 1, 97, 1, 1, 1, 0, 1, 1},
		"a number once more, not dead":       {2, 0, 1, 97, 1, 1, 1, 0, 1, 0, 0},
		"a number that does not end":         bytes.Repeat([]byte{128}, 100),
		"1,025, one of them there":           {129, 8, 0, 1, 97, 1, 1},
		"1,024, one of them there":           {128, 8, 0, 1, 97, 1, 1},
		"1,025 alone":                        {129, 8},
	} {
		wantUnread(t, name, b, api.ErrBad)
		if _, err := plainRead(b); err != api.ErrBad {
			t.Errorf("%s: the plain reader reads it", name)
		}
	}
}

func TestReadNumbers(t *testing.T) { // P12.1: the numbers of a block at their limits, and such as wrap
	great := []uint64{127, 128, 1024, 1025, 1<<8 + 1, 1<<16 + 1, 1<<32 + 1, 1 << 32, 1<<63 + 1, 1 << 63, math.MaxUint64, math.MaxInt64}
	for _, n := range great {
		wantUnread(t, "so many", slices.Concat(number(n), []byte{0, 1, 97, 1, 1}), api.ErrBad)
		wantUnread(t, "so many in common", slices.Concat([]byte{2, 0, 1, 97, 2, 1}, number(n), []byte{0, 1, 1}), api.ErrBad)
		wantUnread(t, "so many in common, of the first one", slices.Concat([]byte{1}, number(n), []byte{1, 97, 1, 1}), api.ErrBad)
		wantUnread(t, "so long a rest", slices.Concat([]byte{1, 0}, number(n), []byte{97, 1, 1}), api.ErrBad)
		wantUnread(t, "so long a value", slices.Concat([]byte{1, 0, 1, 97, 1, 0}, number(n), []byte{97}), api.ErrBad)
	}
	for _, n := range []uint64{1, 2, 127, 128, 300, maxSeq - 1, maxSeq} {
		wantRead(t, "a number", slices.Concat([]byte{1, 0, 1, 97}, number(n), []byte{1}), []api.Entry{gone("a", int(n))})
	}
	for _, n := range []uint64{0, maxSeq + 1, 1 << 41, 1 << 62, 1<<63 + 1, 1 << 63, 1<<63 + maxSeq, math.MaxUint64, math.MaxInt64} {
		wantUnread(t, "a number that may not be", slices.Concat([]byte{1, 0, 1, 97}, number(n), []byte{1}), api.ErrBad)
	}
	wraps := append(bytes.Repeat([]byte{255}, 9), 2)
	for _, b := range [][]byte{{}, {1}, {1, 0}, {1, 0, 1, 97}, {1, 0, 1, 97, 1, 0}} {
		wantUnread(t, "a number of more than 64 bits", slices.Concat(b, wraps, []byte{0, 1, 97, 1, 1}), api.ErrBad)
	}
}

func TestReadLongKeys(t *testing.T) { // P12.1: MaxKey counts for what is in common and the rest together
	for _, c := range []struct{ first, rest int }{{64, 1}, {63, 2}, {1, 64}, {64, 0}, {63, 1}, {1, 63}, {32, 32}, {32, 33}} {
		b := slices.Concat([]byte{2, 0}, textBytes(text(c.first)), []byte{2, 1, byte(c.first)}, textBytes(text(c.rest)), []byte{1, 1})
		if c.first+c.rest > 64 {
			wantUnread(t, "too long a key", b, api.ErrBad)
			continue
		}
		wantRead(t, "a long key", b, []api.Entry{gone(text(c.first), 2), gone(text(c.first+c.rest), 1)})
	}
	wantUnread(t, "a key of 65", slices.Concat([]byte{1, 0}, textBytes(text(65)), []byte{1, 1}), api.ErrBad)
	wantUnread(t, "a value of 513", slices.Concat([]byte{1, 0, 1, 97, 1, 0}, textBytes(text(513))), api.ErrBad)
}

func TestReadWhatMayNotBe(t *testing.T) { // P12.1, P12.4: bytes written well of what has no block
	refused(func(name string, l []api.Entry, want api.Errno) {
		for _, x := range l {
			if x.Dead && x.Value != "" {
				return // its bytes are those of one without a value
			}
		}
		b, want := plain(l), api.ErrBad
		if len(b) > api.MaxBlock {
			want = api.ErrText
		}
		wantUnread(t, name, b, want)
	})
}

func TestReadPart(t *testing.T) { // P12.4: no beginning is a block, nor what goes on behind the end
	for name, l := range good() {
		b := plain(l)
		for n := range b {
			wantUnread(t, name+", cut short", b[:n], api.ErrBad)
		}
		for c := range 256 {
			if len(b) < api.MaxBlock {
				wantUnread(t, name+", a byte behind", append(slices.Clone(b), byte(c)), api.ErrBad)
			}
		}
	}
}

func TestReadChanged(t *testing.T) { // P12.1, P12.4: with one byte changed, gone or more, it is refused, or the block of what it tells
	for _, l := range [][]api.Entry{
		example(),
		good()["begins the other one"],
		good()["ends and begins"],
		{e(text(64), maxSeq, text(200)), gone(text(64), 300), e(text(63)+"u", 1, "")},
		{e("abc", 3, "xy"), e("abc", 2, ""), e("abd", 1, text(128))},
	} {
		b := plain(l)
		for i := range b {
			for c := range 256 {
				x := slices.Clone(b)
				x[i] = byte(c)
				wantAsPlain(t, x)
				wantAsPlain(t, slices.Insert(slices.Clone(b), i, byte(c)))
			}
			wantAsPlain(t, slices.Delete(slices.Clone(b), i, i+1))
		}
	}
}

// next counts on, the last place first, and tells whether there was one more.
func next(places []int, base int) bool {
	for i := len(places) - 1; i >= 0; i-- {
		places[i]++
		if places[i] < base {
			return true
		}
		places[i] = 0
	}
	return false
}

func TestReadAllShort(t *testing.T) { // P12.1, P12.4: all rows of up to ten bytes out of a few, behind how many entries there are
	alphabet := []byte{0, 1, 2, 129}
	found := make([]int, 3)
	for size := range 11 {
		places := make([]int, size)
		b := make([]byte, size+1)
		for more := true; more; more = next(places, len(alphabet)) {
			for i, p := range places {
				b[i+1] = alphabet[p]
			}
			for many := range 3 {
				b[0] = byte(many)
				if wantAsPlain(t, b) {
					found[many]++
				}
			}
		}
	}
	if found[0] != 0 || found[1] < 1000 || found[2] < 100 {
		t.Errorf("so many were read: %v", found)
	}
}

func TestThereAndBack(t *testing.T) { // P12.4, W6: blocks of all kinds, and what is near to them
	r := rand.New(rand.NewSource(112))
	written, tooLong := 0, 0
	for range 5000 {
		l := chance(r)
		b, err := block.Write(l)
		want, wantErr := plainWrite(l)
		if err != wantErr || !bytes.Equal(b, want) {
			t.Fatalf("Write(%v): %v, error %d, not %d", l, b, err, wantErr)
		}
		if err == api.ErrText {
			wantUnread(t, "too long", plain(l), api.ErrText)
			tooLong++
			continue
		}
		written++
		wantRead(t, "written", b, l)
		wantAsPlain(t, b[:r.Intn(len(b))])
		for range 5 {
			x := slices.Clone(b)
			x[r.Intn(len(x))] ^= 1 << r.Intn(8)
			wantAsPlain(t, x)
		}
	}
	if written < 2000 || tooLong < 100 {
		t.Errorf("only %d were written, %d too long", written, tooLong)
	}
}
