package table_test

import (
	"bytes"
	"math"
	"math/rand"
	"slices"
	"testing"

	"millhand/api"
)

func TestRead(t *testing.T) { // P14.1, P14.4: what is built is read back as it was
	for name, l := range good() {
		wantRead(t, name, plain(l), l)
		wantRead(t, name+", built", built(t, l), l)
	}
}

func TestReadHowLong(t *testing.T) { // P14.1, MaxTable: at it and one more, whatever they are
	for _, size := range []int{16382, 16383, 16384} {
		wantRead(t, "many bytes", plain(sized(t, size)), sized(t, size))
	}
	for _, size := range []int{16385, 16386, 16400} {
		wantUnread(t, "too many bytes", plain(sized(t, size)), api.ErrText)
	}
	for _, size := range []int{16383, 16384, 16385, 1 << 17} {
		want := api.ErrBad
		if size > api.MaxTable {
			want = api.ErrText
		}
		for _, c := range []byte{0, 1, 2, 127, 128, 255} {
			b := bytes.Repeat([]byte{c}, size)
			wantUnread(t, "bytes of one kind", b, want)
			copy(b, plain(example()))
			wantUnread(t, "a table, and bytes behind", b, want)
			copy(b[size-37:], plain(example()))
			wantUnread(t, "a table, and bytes ahead", b, want)
		}
	}
}

func TestReadShort(t *testing.T) { // P14.1: what is shorter than an end, an end alone, and hardly more
	for n := range 60 {
		for _, c := range []byte{0, 1, 8, 128, 255} {
			wantUnread(t, "bytes of one kind", bytes.Repeat([]byte{c}, n), api.ErrBad)
		}
	}
	wantUnread(t, "no entries", laid(nil).bytes(), api.ErrBad)
	wantUnread(t, "no entries, a block of them", laid([][]api.Entry{{}}).bytes(), api.ErrBad)
}

// turnable are pieces of tables of one block and of several ones.
func turnable() map[string]func() pieces {
	return map[string]func() pieces{
		"one block":      func() pieces { return laid(plainCut(example())) },
		"two blocks":     func() pieces { return laid(plainCut(longest(2))) },
		"several blocks": func() pieces { return laid(plainCut(mixed(60, 200))) },
		"of one key":     func() pieces { return laid(plainCut(newest(700, "k"))) },
	}
}

func TestReadPiecesWrong(t *testing.T) { // P14.1, P14.4: blocks, sieve, index and end must agree
	for name, make := range turnable() {
		if !wantAsPlain(t, make().bytes()) {
			t.Fatalf("%s: not read", name)
		}
		for what, turn := range map[string]func(p *pieces){
			"a block more in the count":         func(p *pieces) { p.count = number(len(p.blocks) + 1) },
			"a block less in the count":         func(p *pieces) { p.count = number(len(p.blocks) - 1) },
			"no count":                          func(p *pieces) { p.count = nil },
			"a count in two bytes":              func(p *pieces) { p.count = []byte{p.count[0] | 128, 0} },
			"a count that does not end":         func(p *pieces) { p.count = bytes.Repeat([]byte{128}, 11) },
			"no index":                          func(p *pieces) { p.index = nil },
			"the index once more":               func(p *pieces) { p.index = append(p.index, p.index...) },
			"an index without its last":         func(p *pieces) { p.index = p.index[:len(p.index)-1] },
			"a byte behind the index":           func(p *pieces) { p.index = append(p.index, []byte{0}) },
			"an empty block behind":             func(p *pieces) { p.index = append(p.index, []byte{1, 97, 0}) },
			"an empty block, counted":           func(p *pieces) { p.index, p.count = append(p.index, []byte{1, 97, 0}), number(len(p.index)+1) },
			"a last key that is another":        func(p *pieces) { p.index[0][1]++ },
			"no last key":                       func(p *pieces) { p.index[0] = append([]byte{0}, number(len(p.blocks[0]))...) },
			"a last key's length in two bytes":  func(p *pieces) { p.index[0] = slices.Concat([]byte{p.index[0][0] | 128, 0}, p.index[0][1:]) },
			"a longer last key":                 func(p *pieces) { p.index[0][0]++ },
			"a size one more":                   func(p *pieces) { p.index[0] = resized(p.index[0], len(p.blocks[0])+1) },
			"a size one less":                   func(p *pieces) { p.index[0] = resized(p.index[0], len(p.blocks[0])-1) },
			"a size of nothing":                 func(p *pieces) { p.index[0] = resized(p.index[0], 0) },
			"a size of all and more":            func(p *pieces) { p.index[0] = resized(p.index[0], math.MaxInt) },
			"a size below 0, as an int":         func(p *pieces) { p.index[0] = resized(p.index[0], math.MinInt) },
			"a size -1, as an int":              func(p *pieces) { p.index[0] = resized(p.index[0], -1) },
			"a size with 0 behind":              func(p *pieces) { p.index[0][len(p.index[0])-1] |= 128; p.index[0] = append(p.index[0], 0) },
			"no sieve":                          func(p *pieces) { p.sieve = nil; p.end = end(p, 0, 0, 0) },
			"a sieve of noughts":                func(p *pieces) { clear(p.sieve) },
			"a full sieve":                      func(p *pieces) { p.sieve = bytes.Repeat([]byte{255}, len(p.sieve)) },
			"a longer sieve":                    func(p *pieces) { p.sieve = append(p.sieve, 0); p.end = end(p, 0, 0, 0) },
			"a shorter sieve":                   func(p *pieces) { p.sieve = p.sieve[1:]; p.end = end(p, 0, 0, 0) },
			"a byte between, of the sieve":      func(p *pieces) { p.sieve = append(p.sieve, 0) },
			"the blocks end a byte later":       func(p *pieces) { p.end = end(p, 1, -1, 0) },
			"the blocks end a byte earlier":     func(p *pieces) { p.end = end(p, -1, 1, 0) },
			"the sieve ends a byte later":       func(p *pieces) { p.end = end(p, 0, 1, 0) },
			"the sieve ends a byte earlier":     func(p *pieces) { p.end = end(p, 0, -1, 0) },
			"an entry more":                     func(p *pieces) { p.end = end(p, 0, 0, 1) },
			"an entry less":                     func(p *pieces) { p.end = end(p, 0, 0, -1) },
			"2^32 - 1 bytes of blocks":          func(p *pieces) { copy(p.end, four(math.MaxUint32)) },
			"2^31 bytes of blocks":              func(p *pieces) { copy(p.end, four(1<<31)) },
			"2^32 - 1 bytes of a sieve":         func(p *pieces) { copy(p.end[4:], four(math.MaxUint32)) },
			"2^31 bytes of a sieve":             func(p *pieces) { copy(p.end[4:], four(1<<31)) },
			"both together 2^32 and what it is": func(p *pieces) { copy(p.end, four(math.MaxUint32)); copy(p.end[4:], four(len(p.body())+9)) },
			"2^32 - 1 entries":                  func(p *pieces) { copy(p.end[8:], four(math.MaxUint32)) },
			"all of the end 255":                func(p *pieces) { p.end = bytes.Repeat([]byte{255}, 12) },
			"the greatest byte first":           func(p *pieces) { slices.Reverse(p.end[:4]); slices.Reverse(p.end[4:8]); slices.Reverse(p.end[8:]) },
			"no end":                            func(p *pieces) { p.end = nil },
			"an end of two numbers":             func(p *pieces) { p.end = p.end[:8] },
			"no blocks":                         func(p *pieces) { p.blocks = nil; p.end = end(p, 0, 0, 0) },
			"the last block twice":              func(p *pieces) { p.blocks = append(p.blocks, p.blocks[len(p.blocks)-1]); p.end = end(p, 0, 0, 0) },
		} {
			p := make()
			turn(&p)
			wantUnread(t, name+": "+what, p.bytes(), api.ErrBad)
		}
	}
}

// resized is an index's piece with another size.
func resized(piece []byte, size int) []byte {
	return append(slices.Clone(piece[:1+piece[0]]), number(size)...)
}

// end is the end of pieces as they are, with each number more by so much.
func end(p *pieces, blocks, sieve, many int) []byte {
	entries := int(p.end[8]) + int(p.end[9])<<8
	return slices.Concat(four(len(p.body())+blocks), four(len(p.sieve)+sieve), four(entries+many))
}

func TestReadCutOtherwise(t *testing.T) { // P14.1, P14.4: blocks that are cut earlier than need be, or later than may be, and agree with all else
	for name, l := range map[string][]api.Entry{
		"the example":  example(),
		"one key":      newest(280, "k"),
		"mixed":        mixed(40, 90),
		"long":         longest(6),
		"1,025 bytes":  blockOf(t, 1025),
		"1,024 bytes":  blockOf(t, 1024),
		"1,024 and on": append(blockOf(t, 1024), gone("b", 1)),
	} {
		well := plainCut(l)
		wantRead(t, name, laid(well).bytes(), l)
		for n := 1; n < len(l); n++ {
			rows := append(plainCut(l[:n]), plainCut(l[n:])...)
			wantAsPlain(t, laid(rows).bytes())
			if len(well) == 1 || len(rows) > len(well) {
				wantUnread(t, name+", cut once more", laid(rows).bytes(), api.ErrBad)
			}
		}
		for i := range well[1:] {
			rows := slices.Concat(well[:i], [][]api.Entry{slices.Concat(well[i], well[i+1])}, well[i+2:])
			if len(plainBlock(rows[i])) <= 1024 {
				t.Fatalf("%s: it is well cut", name)
			}
			wantUnread(t, name+", two blocks as one", laid(rows).bytes(), api.ErrBad)
			if n := len(well[i]); n > 1 {
				rows = slices.Concat(well[:i], [][]api.Entry{well[i][:n-1], slices.Concat(well[i][n-1:], well[i+1])}, well[i+2:])
				wantUnread(t, name+", one entry later", laid(rows).bytes(), api.ErrBad)
			}
			rows = slices.Concat(well[:i], [][]api.Entry{append(slices.Clone(well[i]), well[i+1][0])}, plainCut(well[i+1][1:]), well[i+2:])
			wantUnread(t, name+", one entry earlier", laid(rows).bytes(), api.ErrBad)
			rows = slices.Concat(well[:i+1], [][]api.Entry{{}}, well[i+1:])
			wantUnread(t, name+", a block of none between", laid(rows).bytes(), api.ErrBad)
		}
	}
}

func TestReadTurned(t *testing.T) { // P14.1: entries that don't stand in order from block to block, or come twice
	for name, l := range map[string][]api.Entry{"keys": mixed(60, 200), "one key": newest(700, "k"), "long": longest(7)} {
		rows := plainCut(l)
		for i := range rows[1:] {
			turned := slices.Clone(rows)
			turned[i], turned[i+1] = turned[i+1], turned[i]
			wantUnread(t, name+", turned", laid(turned).bytes(), api.ErrBad)
			twice := slices.Insert(slices.Clone(rows), i, rows[i])
			wantUnread(t, name+", twice", laid(twice).bytes(), api.ErrBad)
		}
	}
}

func TestReadKeysTwice(t *testing.T) { // P14.1: the sieve has each key once
	l := newest(20, "k")
	p := laid(plainCut(l))
	p.sieve = plainSieve(slices.Repeat([]string{"k"}, 20))
	p.end = end(&p, 0, 0, 0)
	wantUnread(t, "a key twenty times in the sieve", p.bytes(), api.ErrBad)
}

func TestReadWhatMayNotBe(t *testing.T) { // P14.1, P14.4: bytes laid well of what has no table
	refused(func(name string, l []api.Entry, want api.Errno) {
		if len(l) > 2000 {
			return
		}
		for _, x := range l {
			if x.Dead && x.Value != "" {
				return // its bytes are those of one without a value
			}
		}
		b, want := plain(l), api.ErrBad
		if len(b) > api.MaxTable {
			want = api.ErrText
		}
		wantUnread(t, name, b, want)
	})
}

func TestReadPart(t *testing.T) { // P14.4: no beginning and no end is a table, nor what goes on
	for _, name := range []string{"the example", "one", "few, mixed", "the longest, of a key", "127"} {
		b := plain(good()[name])
		for n := range b {
			wantUnread(t, name+", cut short", b[:n], api.ErrBad)
			if n > 0 {
				wantUnread(t, name+", cut ahead", b[n:], api.ErrBad)
			}
		}
		for c := range 256 {
			wantUnread(t, name+", a byte behind", append(slices.Clone(b), byte(c)), api.ErrBad)
			wantUnread(t, name+", a byte ahead", append([]byte{byte(c)}, b...), api.ErrBad)
		}
		wantUnread(t, name+", twice", append(slices.Clone(b), b...), api.ErrBad)
	}
}

func TestReadChanged(t *testing.T) { // P14.1, P14.4: with one byte changed, gone or more, it is refused, or the table of what it tells
	read := 0
	for _, l := range [][]api.Entry{
		example(),
		good()["begins the other one"],
		{e("abc", 3, "xy"), e("abc", 2, ""), e("abd", 1, text(60))},
	} {
		b := plain(l)
		for i := range b {
			for c := range 256 {
				x := slices.Clone(b)
				x[i] = byte(c)
				if wantAsPlain(t, x) && c != int(b[i]) {
					read++
				}
				wantAsPlain(t, slices.Insert(slices.Clone(b), i, byte(c)))
			}
			wantAsPlain(t, slices.Delete(slices.Clone(b), i, i+1))
		}
	}
	if read < 100 {
		t.Errorf("only %d tables of other entries were read", read)
	}
}

func TestReadChangedByChance(t *testing.T) { // P14.4: the same of tables of several blocks
	r := rand.New(rand.NewSource(314))
	for range 400 {
		l := chance(r)
		b := plain(l)
		if len(b) > api.MaxTable {
			wantUnread(t, "too long", b, api.ErrText)
			continue
		}
		wantAsPlain(t, b[:r.Intn(len(b))])
		for range 6 {
			x := slices.Clone(b)
			x[r.Intn(len(x))] ^= 1 << r.Intn(8)
			wantAsPlain(t, x)
			tail := slices.Clone(b)
			tail[len(tail)-1-r.Intn(min(40, len(tail)))] = byte(r.Intn(256))
			wantAsPlain(t, tail)
		}
	}
}

func TestReadAnyBytes(t *testing.T) { // R1: whatever it is handed, also behind an end that goes well with it
	r := rand.New(rand.NewSource(414))
	for range 20000 {
		b := make([]byte, r.Intn(80))
		for i := range b {
			b[i] = []byte{0, 1, 2, 8, 97, 128, 255, byte(r.Intn(256))}[r.Intn(8)]
		}
		wantAsPlain(t, b)
		blocks := r.Intn(len(b) + 1)
		wantAsPlain(t, slices.Concat(b, four(blocks), four(r.Intn(len(b)-blocks+1)), four(r.Intn(4))))
	}
}
