package frame_test

import (
	"encoding/binary"
	"math/rand"
	"slices"
	"testing"

	"millhand/api"
)

// next are the blocks of the next record of a log of the gen 1, of a salt that is by so much above all others.
func next(t *testing.T, log api.Log, above uint32, r []byte) [][]byte {
	t.Helper()
	return framed(t, 1, uint32(len(log.Records)+1), max(log.Last, log.Greatest)+above, log.Last, r)
}

// written are blocks into which those of others are written, from at on, for whose places the bits are set.
func written(l, b [][]byte, at, bits int) [][]byte {
	l = copied(l)
	for i := range b {
		if bits>>i&1 != 0 {
			copy(l[at+i], b[i])
		}
	}
	return l
}

// places are blocks in which a log of the gen 1 ends, with something of each kind behind it.
func places() map[string][][]byte {
	log := row(made(1, 1, 3, 0, some(120, 1)), made(1, 2, 5, 3, some(5, 2)))
	later := row(made(1, 3, 6, 5, some(250, 3)), made(1, 4, 7, 6, some(9, 4)), made(1, 5, 8, 7, some(9, 5)))
	big := made(1, 3, 6, 5, some(420, 3))
	return map[string][][]byte{
		"no log, noughts":                blank(8),
		"no log, bytes":                  filledBy(8, 255),
		"no log, ones":                   filledBy(8, 1),
		"no log, a second record":        row(made(1, 2, 9, 4, some(200, 1)), blank(6)),
		"noughts":                        row(log, blank(8)),
		"bytes":                          row(log, filledBy(8, 255)),
		"a torn record, without its one": row(log, later[1:], blank(4)),
		"a torn one, without its second": row(log, later[:1], blank(1), later[2:], blank(3)),
		"a torn one, without its third":  row(log, later[:2], blank(1), later[3:], blank(3)),
		"records that hang on no one":    row(log, blank(1), later, blank(2)),
		"records of another gen":         row(log, made(2, 3, 6, 5, some(250, 3)), made(2, 4, 7, 6, some(9, 4)), blank(4)),
		"torn ones of several salts":     row(log, big[:1], made(1, 3, 7, 5, some(420, 3))[1:2], made(1, 3, 8, 5, some(420, 3))[2:], blank(3)),
		"the end of the blocks":          row(log, big[1:]),
		"a salt ahead above all salts":   row(log, made(1, 4, 9, 30, some(300, 3)), blank(4)),
	}
}

func TestNextRecordIsWrittenWholeOrNot(t *testing.T) { // P8.4
	for name, l := range places() {
		log := logged(t, 1, l)
		for _, size := range []int{0, 1, 106, 107, 108, 214, 215, 321, 400} {
			for _, above := range []uint32{1, 2, 255, 1 << 24, greatest - max(log.Last, log.Greatest)} {
				r := some(size, 7)
				b := next(t, log, above, r)
				if len(b) > len(l)-log.Blocks {
					continue
				}
				for bits := range 1 << len(b) {
					wholeOrNot(t, name, log, logged(t, 1, written(l, b, log.Blocks, bits)), b, r, bits == 1<<len(b)-1)
				}
			}
		}
	}
}

// wholeOrNot holds the log behind a write of a record's blocks against the one ahead of it: if all of them are there, there is just that record more; else none.
func wholeOrNot(t *testing.T, name string, log, got api.Log, b [][]byte, r []byte, all bool) {
	t.Helper()
	want := api.Log{Records: log.Records, Blocks: log.Blocks, Last: log.Last, Greatest: got.Greatest}
	if all {
		want.Records = append(slices.Clone(want.Records), r)
		want.Blocks += len(b)
		want.Last = binary.LittleEndian.Uint32(b[0][8:])
	}
	if !sameLog(got, want) {
		t.Errorf("%s: %d records, %d blocks, last %d behind a record of %d bytes (all of it: %t)", name, len(got.Records), got.Blocks, got.Last, len(r), all)
	}
	if all && got.Greatest > max(log.Last, log.Greatest) {
		t.Errorf("%s: behind the record stands the salt %d", name, got.Greatest)
	}
}

func TestNextRecordsAgainAndAgain(t *testing.T) { // P8.4: torn writes over torn writes, of any blocks
	for seed := range int64(60) {
		rnd := rand.New(rand.NewSource(seed))
		l := row(beginningLog(rnd), anyBlocks(rnd, 40))
		log := logged(t, 1, l)
		for range 60 {
			r := some(rnd.Intn(500), rnd.Intn(9))
			b := next(t, log, uint32(1+rnd.Intn(3)), r)
			if len(b) > len(l)-log.Blocks {
				continue
			}
			bits := 1<<len(b) - 1
			if rnd.Intn(3) > 0 {
				bits = rnd.Intn(1 << len(b))
			}
			l = written(l, b, log.Blocks, bits)
			behind := logged(t, 1, l)
			wholeOrNot(t, "again and again", log, behind, b, r, bits == 1<<len(b)-1)
			if !sameLog(behind, isLog(1, l)) {
				t.Errorf("Read: %v, not %v", behind, isLog(1, l))
			}
			log = behind
		}
	}
}

func TestNextRecordThatStandsThere(t *testing.T) { // P8.4: blocks that were written already, by a write that was torn, never make one with a later salt's
	log := row(made(1, 1, 3, 0, some(120, 1)))
	l := row(log, blank(6))
	old := next(t, logged(t, 1, l), 1, some(300, 2))
	for first := range 1<<len(old) - 1 {
		torn := written(l, old, 2, first)
		before := logged(t, 1, torn)
		again := next(t, before, 1, some(300, 2)) // the same record, once more
		for bits := range 1 << len(again) {
			got := logged(t, 1, written(torn, again, 2, bits))
			wholeOrNot(t, "the same record once more", before, got, again, some(300, 2), bits == 1<<len(again)-1)
		}
	}
}

func TestFramedIsOpened(t *testing.T) { // P8.4, W6: there and back
	for size := 0; size <= 700; size++ {
		r := some(size, size)
		l := framed(t, 5, uint32(size+1), uint32(size*3), uint32(size*2), r)
		if got := open(5, uint32(size+1), uint32(size*2), l); got != (record{string(r), uint32(size * 3), len(l), api.OK}) {
			t.Errorf("%d bytes: %v", size, got)
		}
	}
}
