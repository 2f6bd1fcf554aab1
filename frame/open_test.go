package frame_test

import (
	"math/rand"
	"testing"

	"millhand/api"
	"millhand/frame"
)

func TestOpen(t *testing.T) { // P8.2, P8.4: a record's blocks are opened as it, whatever stands behind them
	behind := map[string][][]byte{
		"nothing":           nil,
		"a nought":          blank(1),
		"noughts":           blank(5),
		"bytes":             filledBy(3, 255),
		"the same record":   made(3, 4, 7, 9, some(300, 1)),
		"the next record":   made(3, 5, 8, 7, some(10, 1)),
		"one of that salt":  made(3, 5, 7, 7, some(108, 1)),
		"one of another":    made(2, 5, 8, 7, some(10, 1)),
		"blocks of no gen":  filledBy(2, 1),
		"blocks to the end": blank(api.MaxBlocks - 154),
	}
	for _, n := range []struct{ gen, number, salt, prev uint32 }{
		{3, 4, 7, 9}, {1, 1, 0, 0}, {1, 1, greatest, 0}, {1, 2, 0, greatest}, {greatest, greatest, greatest, greatest}, {256, 65536, 1 << 24, 255},
	} {
		for _, size := range []int{0, 1, 106, 107, 108, 213, 214, 215, 1000, api.MaxRecord - 13, api.MaxRecord - 12, api.MaxRecord} {
			for _, r := range [][]byte{some(size, 5), make([]byte, size)} { // a record of noughts alone is one, too
				l := made(n.gen, n.number, n.salt, n.prev, r)
				want := record{string(r), n.salt, len(l), api.OK}
				for name, b := range behind {
					if got := open(n.gen, n.number, n.prev, row(l, b)); got != want {
						t.Errorf("%v, %d bytes, %s behind: %v, not %v", n, size, name, got, want)
					}
				}
			}
		}
	}
}

func TestOpenOfOtherNumbers(t *testing.T) { // P8.2: gen, number and prev are those that are asked for
	for _, size := range []int{0, 3, 107, 108, 500} {
		l := row(made(3, 4, 7, 9, some(size, 1)), blank(2))
		for _, n := range []struct{ gen, number, prev uint32 }{
			{2, 4, 9}, {4, 4, 9}, {0, 4, 9}, {3 + 1<<8, 4, 9}, {3 + 1<<24, 4, 9}, {greatest, 4, 9},
			{3, 3, 9}, {3, 5, 9}, {3, 0, 9}, {3, 4 + 1<<16, 9}, {3, greatest, 9},
			{3, 4, 8}, {3, 4, 10}, {3, 4, 0}, {3, 4, 7}, {3, 4, 9 + 1<<24}, {3, 4, greatest},
			{4, 3, 9}, {0, 0, 0},
		} {
			if got := open(n.gen, n.number, n.prev, l); got != none {
				t.Errorf("Open(%v, of %d bytes): %v", n, size, got)
			}
		}
		if got := open(3, 4, 9, l); got.e != api.OK {
			t.Errorf("Open of the right numbers, of %d bytes: %v", size, got)
		}
	}
}

func TestNoRecordIsOfGenOrNumberNought(t *testing.T) { // P8.2: blocks that would be one's, if there were
	for _, n := range []struct{ gen, number uint32 }{{0, 1}, {1, 0}, {0, 0}} {
		for _, size := range []int{0, 3, 108} {
			if got := open(n.gen, n.number, 0, made(n.gen, n.number, 7, 0, some(size, 1))); got != none {
				t.Errorf("Open(%d, %d, 0, of %d bytes): %v", n.gen, n.number, size, got)
			}
		}
		if got := open(n.gen, n.number, 0, nil); got != none {
			t.Errorf("Open(%d, %d, 0, none): %v", n.gen, n.number, got)
		}
	}
}

func TestOpenOfNoRecord(t *testing.T) { // P8.2: what is not a record's blocks to the last byte is none
	p := some(room, 3)
	one := func(h head, part []byte) [][]byte { return [][]byte{raw(h, part)} }
	first := raw(head{1, 1, 7, 0, 0, 2, room}, p)
	two := func(h head, part []byte) [][]byte { return [][]byte{first, raw(h, part)} }
	three := made(1, 1, 7, 0, some(300, 1))
	lead := func(h head, part []byte) [][]byte { return [][]byte{raw(h, part), three[1], three[2]} }
	greater := made(1, 1, 7, 0, some(153*room, 1)) // the most whole blocks; by hand one more
	for i := range greater {
		greater[i][18] = 154
	}
	for name, l := range map[string][][]byte{
		"none":                                 nil,
		"none, not nil":                        {},
		"noughts":                              blank(1),
		"noughts of MaxBlocks":                 blank(api.MaxBlocks),
		"bytes":                                filledBy(2, 255),
		"ones":                                 filledBy(api.MaxBlocks, 1),
		"a byte right behind it":               one(head{1, 1, 7, 0, 0, 1, 3}, []byte("abcd")),
		"a byte at the end":                    one(head{1, 1, 7, 0, 0, 1, 3}, append([]byte("abc"), append(make([]byte, 103), 1)...)),
		"a byte at the end of no bytes":        one(head{1, 1, 7, 0, 0, 1, 0}, append(make([]byte, 106), 1)),
		"a byte behind all but one":            one(head{1, 1, 7, 0, 0, 1, 106}, p),
		"no blocks in all":                     one(head{1, 1, 7, 0, 0, 0, 3}, []byte("abc")),
		"no blocks in all, no bytes":           one(head{1, 1, 7, 0, 0, 0, 0}, nil),
		"two in all, one there":                one(head{1, 1, 7, 0, 0, 2, room}, p),
		"two in all, one there, short":         one(head{1, 1, 7, 0, 0, 2, 3}, []byte("abc")),
		"2^8 more in all":                      one(head{1, 1, 7, 0, 0, 257, 3}, []byte("abc")),
		"the most in all":                      one(head{1, 1, 7, 0, 0, 1<<16 - 1, room}, p),
		"the second one":                       one(head{1, 1, 7, 0, 1, 1, 3}, []byte("abc")),
		"the 256th one":                        one(head{1, 1, 7, 0, 256, 1, 3}, []byte("abc")),
		"a length above":                       one(head{1, 1, 7, 0, 0, 1, room + 1}, p),
		"the greatest length":                  one(head{1, 1, 7, 0, 0, 1, 255}, p),
		"a length above, of two":               two(head{1, 1, 7, 0, 1, 2, room + 1}, p),
		"the last one without bytes":           two(head{1, 1, 7, 0, 1, 2, 0}, nil),
		"the last one's gen":                   two(head{2, 1, 7, 0, 1, 2, 3}, []byte("abc")),
		"the last one's number":                two(head{1, 2, 7, 0, 1, 2, 3}, []byte("abc")),
		"the last one's salt":                  two(head{1, 1, 8, 0, 1, 2, 3}, []byte("abc")),
		"the last one's prev":                  two(head{1, 1, 7, 1, 1, 2, 3}, []byte("abc")),
		"the last one's place, below":          two(head{1, 1, 7, 0, 0, 2, 3}, []byte("abc")),
		"the last one's place, above":          two(head{1, 1, 7, 0, 2, 2, 3}, []byte("abc")),
		"the last one's many, below":           two(head{1, 1, 7, 0, 1, 1, 3}, []byte("abc")),
		"the last one's many, above":           two(head{1, 1, 7, 0, 1, 3, 3}, []byte("abc")),
		"a byte behind the last one":           two(head{1, 1, 7, 0, 1, 2, 3}, []byte("abcd")),
		"noughts for the last one":             {first, blank(1)[0]},
		"the last one alone":                   {raw(head{1, 1, 7, 0, 1, 2, 3}, []byte("abc"))},
		"the two the other way round":          {raw(head{1, 1, 7, 0, 1, 2, 3}, []byte("abc")), first},
		"the first one twice":                  {first, first},
		"the first one short":                  lead(head{1, 1, 7, 0, 0, 3, room - 1}, p[:room-1]),
		"the first one short, but whole":       lead(head{1, 1, 7, 0, 0, 3, room - 1}, p),
		"the first one without bytes":          lead(head{1, 1, 7, 0, 0, 3, 0}, nil),
		"the first one's length above":         lead(head{1, 1, 7, 0, 0, 3, room + 1}, p),
		"the first one of two, three there":    lead(head{1, 1, 7, 0, 0, 2, room}, p),
		"the first one of four, three there":   lead(head{1, 1, 7, 0, 0, 4, room}, p),
		"the second one short":                 {three[0], raw(head{1, 1, 7, 0, 1, 3, room - 1}, p[:room-1]), three[2]},
		"the second one of another salt":       {three[0], raw(head{1, 1, 6, 0, 1, 3, room}, p), three[2]},
		"the second and third turned":          {three[0], three[2], three[1]},
		"a block between":                      {three[0], three[1], three[1], three[2]},
		"a block ahead":                        {blank(1)[0], three[0], three[1], three[2]},
		"the third one missing":                {three[0], three[1]},
		"154 blocks of which the last is none": append(copied(greater), raw(head{1, 1, 7, 0, 153, 154, 0}, nil)),
		"one byte more than MaxRecord":         append(copied(greater), raw(head{1, 1, 7, 0, 153, 154, 14}, p[:14])),
		"154 whole blocks":                     append(copied(greater), raw(head{1, 1, 7, 0, 153, 154, room}, p)),
		"155 blocks":                           made(1, 1, 7, 0, some(154*room+1, 1)),
		"MaxBlocks blocks":                     made(1, 1, 7, 0, some(api.MaxBlocks*room, 1)),
	} {
		if got := open(1, 1, 0, l); got != none {
			t.Errorf("%s: %v", name, got)
		}
		if log := logged(t, 1, l); len(log.Records) != 0 || log.Blocks != 0 || log.Last != 0 {
			t.Errorf("%s: a log of %d records, %d blocks", name, len(log.Records), log.Blocks)
		}
	}
	whole := append(copied(greater), raw(head{1, 1, 7, 0, 153, 154, 13}, p[:13]))
	if got := open(1, 1, 0, whole); got.e != api.OK || len(got.bytes) != api.MaxRecord || got.blocks != 154 {
		t.Errorf("MaxRecord bytes: %v", got)
	}
}

func TestEveryByteCounts(t *testing.T) { // P8.2, P8.4: nothing else is opened, whichever byte is another
	for _, size := range []int{0, 1, 50, 106, 107, 108, 150, 214, 230} {
		for _, r := range [][]byte{some(size, 1), make([]byte, size)} {
			l := row(made(3, 4, 7, 9, r), blank(1))
			for i := range l {
				for at := range api.Block {
					for _, x := range []byte{1, 2, 128, 255} {
						l[i][at] ^= x
						openAsFields(t, 3, 4, 9, l)
						l[i][at] ^= x
					}
				}
			}
		}
	}
}

// openAsFields holds Open against what the fields of the blocks tell, and what it opens against Frame.
func openAsFields(t *testing.T, gen, number, prev uint32, l [][]byte) {
	t.Helper()
	want, is := isRecord(gen, number, prev, l)
	got := open(gen, number, prev, l)
	if got != want {
		t.Errorf("Open(%d, %d, %d, %v): %v, not %v", gen, number, prev, l, got, want)
	}
	if is && !same(framed(t, gen, number, got.salt, prev, []byte(got.bytes)), l[:got.blocks]) {
		t.Errorf("Open(%d, %d, %d, %v): %v, whose blocks are others", gen, number, prev, l, got)
	}
}

func TestOpenOfAnyBlocks(t *testing.T) { // P8.2, P8.4: opened is what Frame would have made, and nothing else
	rnd := rand.New(rand.NewSource(8))
	opened := 0
	for range 20000 {
		l := row(made(uint32(1+rnd.Intn(2)), uint32(1+rnd.Intn(2)), uint32(rnd.Intn(3)), uint32(rnd.Intn(2)), some(rnd.Intn(350), 2)), anyBlocks(rnd, 2))
		for range rnd.Intn(3) {
			b := l[rnd.Intn(len(l))]
			b[rnd.Intn(24)] = byte(rnd.Intn(4))
			if rnd.Intn(2) == 0 {
				b[20] = byte(105 + rnd.Intn(5))
			}
		}
		openAsFields(t, 1, 1, 0, l)
		openAsFields(t, 1, 2, 1, l)
		if open(1, 1, 0, l).e == api.OK {
			opened++
		}
	}
	if opened < 500 {
		t.Errorf("%d records opened: too few to tell", opened)
	}
}

// anyBlocks are blocks of records that begin and end anywhere, of few gens, numbers and salts, so that they meet.
func anyBlocks(rnd *rand.Rand, many int) [][]byte {
	var l [][]byte
	for len(l) < many {
		b := made(uint32(1+rnd.Intn(2)), uint32(1+rnd.Intn(4)), uint32(rnd.Intn(5)), uint32(rnd.Intn(5)), some(rnd.Intn(400), rnd.Intn(9)))
		from := rnd.Intn(len(b))
		l = append(l, b[from:from+1+rnd.Intn(len(b)-from)]...)
		if rnd.Intn(5) == 0 {
			l = append(l, blank(1)...)
		}
	}
	return l[:many]
}

func TestGreatest(t *testing.T) { // P8.2
	gen := func(n uint32) []byte { return raw(head{gen: n}, nil) }
	other := raw(head{gen: 5, number: 9, salt: 10, prev: 11, place: 12, many: 13, size: 14}, some(room, 1))
	for name, c := range map[string]struct {
		l    [][]byte
		want uint32
	}{
		"none":                           {nil, 0},
		"none, not nil":                  {[][]byte{}, 0},
		"noughts":                        {blank(3), 0},
		"one":                            {[][]byte{gen(7)}, 7},
		"the greatest":                   {[][]byte{gen(greatest)}, greatest},
		"the first one":                  {[][]byte{gen(9), gen(7), gen(8)}, 9},
		"the last one":                   {[][]byte{gen(1), gen(7), gen(9)}, 9},
		"between noughts":                {[][]byte{gen(0), gen(7), gen(0)}, 7},
		"the least byte first":           {[][]byte{gen(255), gen(256), gen(1)}, 256},
		"each of the four bytes":         {[][]byte{gen(0x04030201), gen(0x01020304)}, 0x04030201},
		"above 31 bits":                  {[][]byte{gen(1 << 31), gen(1<<31 - 1)}, 1 << 31},
		"the first four bytes alone":     {[][]byte{other, gen(2)}, 5},
		"bytes":                          {filledBy(2, 255), greatest},
		"records of gens":                {row(made(3, 1, 7, 0, some(200, 1)), made(6, 9, 7, 8, nil), made(4, 1, 99, 77, nil)), 6},
		"MaxBlocks":                      {row(blank(api.MaxBlocks-1), [][]byte{gen(3)}), 3},
		"not of a number that is no gen": {[][]byte{raw(head{number: 9, salt: 9, prev: 9}, some(room, 1))}, 0},
	} {
		if n, e := frame.Greatest(c.l); n != c.want || e != api.OK {
			t.Errorf("Greatest of %s: %d, error %d", name, n, e)
		}
	}
}
