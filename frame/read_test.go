package frame_test

import (
	"math/rand"
	"testing"

	"millhand/api"
	"millhand/frame"
)

func TestRead(t *testing.T) { // P8.2
	a, b, c := some(3, 1), some(300, 2), some(107, 3)
	one, two, three := made(3, 1, 7, 0, a), made(3, 2, 9, 7, b), made(3, 3, 12, 9, c)
	mark := func(gen, salt, prev uint32) [][]byte {
		return [][]byte{raw(head{gen: gen, salt: salt, prev: prev}, nil)}
	}
	for name, x := range map[string]struct {
		l    [][]byte
		want api.Log
	}{
		"none":                           {nil, api.Log{}},
		"none, not nil":                  {[][]byte{}, api.Log{}},
		"noughts":                        {blank(3), api.Log{}},
		"one":                            {one, api.Log{Records: [][]byte{a}, Blocks: 1, Last: 7}},
		"one of no bytes":                {made(3, 1, 7, 0, nil), api.Log{Records: [][]byte{nil}, Blocks: 1, Last: 7}},
		"one of salt 0":                  {made(3, 1, 0, 0, a), api.Log{Records: [][]byte{a}, Blocks: 1}},
		"two of salt 0":                  {row(made(3, 1, 0, 0, a), made(3, 2, 0, 0, b)), api.Log{Records: [][]byte{a, b}, Blocks: 4}},
		"one of the greatest salt":       {made(3, 1, greatest, 0, a), api.Log{Records: [][]byte{a}, Blocks: 1, Last: greatest}},
		"salts that fall":                {row(made(3, 1, 9, 0, a), made(3, 2, 4, 9, c)), api.Log{Records: [][]byte{a, c}, Blocks: 2, Last: 4}},
		"three":                          {row(one, two, three), api.Log{Records: [][]byte{a, b, c}, Blocks: 5, Last: 12}},
		"three, and noughts":             {row(one, two, three, blank(2)), api.Log{Records: [][]byte{a, b, c}, Blocks: 5, Last: 12}},
		"the same record again":          {row(one, one), api.Log{Records: [][]byte{a}, Blocks: 1, Last: 7, Greatest: 7}},
		"a block of noughts ahead":       {row(blank(1), one, two), api.Log{Greatest: 9}},
		"a block of noughts between":     {row(one, blank(1), two), api.Log{Records: [][]byte{a}, Blocks: 1, Last: 7, Greatest: 9}},
		"the second alone":               {row(two, three), api.Log{Greatest: 12}},
		"a first one of another number":  {made(3, 2, 7, 0, a), api.Log{Greatest: 7}},
		"a first one behind another":     {made(3, 1, 7, 5, a), api.Log{Greatest: 7}},
		"a first one behind a greater":   {made(3, 1, 5, 7, a), api.Log{Greatest: 7}},
		"a second of another number":     {row(one, made(3, 3, 9, 7, b)), api.Log{Records: [][]byte{a}, Blocks: 1, Last: 7, Greatest: 9}},
		"a second of the same number":    {row(one, made(3, 1, 9, 7, b)), api.Log{Records: [][]byte{a}, Blocks: 1, Last: 7, Greatest: 9}},
		"a second of another gen":        {row(one, made(4, 2, 9, 7, b)), api.Log{Records: [][]byte{a}, Blocks: 1, Last: 7}},
		"a second behind another salt":   {row(one, made(3, 2, 9, 6, b)), api.Log{Records: [][]byte{a}, Blocks: 1, Last: 7, Greatest: 9}},
		"a second behind a nought":       {row(one, made(3, 2, 9, 0, b)), api.Log{Records: [][]byte{a}, Blocks: 1, Last: 7, Greatest: 9}},
		"a second without its end":       {row(one, two[:2]), api.Log{Records: [][]byte{a}, Blocks: 1, Last: 7, Greatest: 9}},
		"a second without its middle":    {row(one, two[:1], two[2:], three), api.Log{Records: [][]byte{a}, Blocks: 1, Last: 7, Greatest: 12}},
		"a second without its beginning": {row(one, two[1:], three), api.Log{Records: [][]byte{a}, Blocks: 1, Last: 7, Greatest: 12}},
		"behind a missing one nothing":   {row(one, three), api.Log{Records: [][]byte{a}, Blocks: 1, Last: 7, Greatest: 12}},
		"salts of other gens alone":      {row(one, mark(2, 99, 98), mark(4, 97, 99), mark(0, 99, 99), filledBy(1, 255)), api.Log{Records: [][]byte{a}, Blocks: 1, Last: 7}},
		"salts of that gen and others":   {row(one, mark(2, 99, 98), mark(3, 5, 4), mark(4, 97, 99)), api.Log{Records: [][]byte{a}, Blocks: 1, Last: 7, Greatest: 5}},
		"a salt ahead that is greater":   {row(one, mark(3, 5, 6), mark(3, 4, 3)), api.Log{Records: [][]byte{a}, Blocks: 1, Last: 7, Greatest: 6}},
		"the greatest at the end":        {row(one, mark(3, 1, 2), blank(3), mark(3, 3, 30)), api.Log{Records: [][]byte{a}, Blocks: 1, Last: 7, Greatest: 30}},
		"the greatest of all salts":      {row(one, mark(3, greatest, 2)), api.Log{Records: [][]byte{a}, Blocks: 1, Last: 7, Greatest: greatest}},
		"the greatest of all ahead":      {row(blank(1), mark(3, 2, greatest)), api.Log{Greatest: greatest}},
		"salts 0 behind it":              {row(one, mark(3, 0, 0)), api.Log{Records: [][]byte{a}, Blocks: 1, Last: 7}},
		"the least byte first":           {row(one, mark(3, 255, 0), mark(3, 256, 1)), api.Log{Records: [][]byte{a}, Blocks: 1, Last: 7, Greatest: 256}},
		"a gen that differs far up":      {row(one, mark(3+1<<24, 99, 99)), api.Log{Records: [][]byte{a}, Blocks: 1, Last: 7}},
		"of other gens":                  {row(made(2, 1, 7, 0, a), made(2, 2, 9, 7, b)), api.Log{}},
		"of no gen":                      {made(0, 1, 7, 0, a), api.Log{}},
	} {
		if log := logged(t, 3, x.l); !sameLog(log, x.want) {
			t.Errorf("Read of %s: %d records, %d blocks, last %d, greatest %d", name, len(log.Records), log.Blocks, log.Last, log.Greatest)
		}
	}
}

func TestReadOfGenNought(t *testing.T) { // P8.2: ahead of all that the list could be
	for _, l := range [][][]byte{nil, blank(1), made(0, 1, 7, 0, nil), made(1, 1, 7, 0, nil), {nil}, blank(api.MaxBlocks + 1)} {
		if log, e := frame.Read(0, l); e != api.ErrArg || !isZero(log) {
			t.Errorf("Read(0, %d blocks): error %d", len(l), e)
		}
	}
}

func TestReadOfMaxBlocks(t *testing.T) { // P8.2: a log that takes all blocks there can be
	for _, size := range []int{0, 107, 108, 1000, api.MaxRecord} {
		var l, want [][]byte
		var last uint32
		for number := uint32(1); ; number++ {
			r := some(size, int(number))
			b := made(greatest, number, last+2, last, r)
			if len(l)+len(b) > api.MaxBlocks {
				break
			}
			l, want, last = append(l, b...), append(want, r), last+2
		}
		used := len(l)
		l = append(l, blank(api.MaxBlocks-used)...)
		if log := logged(t, greatest, l); !sameLog(log, api.Log{Records: want, Blocks: used, Last: last}) {
			t.Errorf("records of %d bytes: %d of %d, %d blocks of %d", size, len(log.Records), len(want), log.Blocks, used)
		}
	}
}

func TestReadOfAnyBlocks(t *testing.T) { // P8.2, and P8.4: what is not of that gen is not read
	rnd := rand.New(rand.NewSource(9))
	var most int
	for range 5000 {
		l := anyBlocks(rnd, rnd.Intn(12))
		l = row(beginningLog(rnd), l)
		for gen := uint32(1); gen < 4; gen++ {
			log, want := logged(t, gen, l), isLog(gen, l)
			if !sameLog(log, want) {
				t.Fatalf("Read(%d, %v): %v, not %v", gen, l, log, want)
			}
			if m := readByOpen(gen, l); !same(log.Records, m) {
				t.Fatalf("Read(%d, %v): %v, not what Open opens, %v", gen, l, log.Records, m)
			}
			most = max(most, len(log.Records))
		}
	}
	if most < 3 {
		t.Errorf("%d records at the most: too few to tell", most)
	}
}

// beginningLog is a log of some records, of the gen 1, with which blocks may begin.
func beginningLog(rnd *rand.Rand) (l [][]byte) {
	var last uint32
	for i := range rnd.Intn(4) {
		salt := uint32(rnd.Intn(5))
		l = append(l, made(1, uint32(i+1), salt, last, some(rnd.Intn(250), i))...)
		last = salt
	}
	return l
}

// readByOpen are the records that Open opens one behind the other.
func readByOpen(gen uint32, l [][]byte) (records [][]byte) {
	var last uint32
	for number := uint32(1); ; number++ {
		r, salt, many, e := frame.Open(gen, number, last, l)
		if e != api.OK {
			return records
		}
		records, last, l = append(records, r), salt, l[many:]
	}
}

func TestBlocksOfAnotherGenAreNotRead(t *testing.T) { // P8.4
	rnd := rand.New(rand.NewSource(10))
	for range 2000 {
		l := row(beginningLog(rnd), anyBlocks(rnd, 8))
		log := logged(t, 1, l)
		for i := range l { // whatever else such a block tells
			if l[i][0] == 2 {
				copy(l[i][1:], some(api.Block-1, rnd.Intn(99)))
			}
		}
		if m := logged(t, 1, l); !sameLog(log, m) {
			t.Errorf("the log hangs on blocks of another gen: %v, not %v", m, log)
		}
		for _, gen := range []uint32{3, 256, 257, 1 << 24, greatest} {
			if m := logged(t, gen, l); !sameLog(m, api.Log{}) {
				t.Errorf("a log of a gen that is not there: %v", m)
			}
		}
	}
}
