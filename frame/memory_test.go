package frame_test

import (
	"bytes"
	"testing"

	"millhand/api"
	"millhand/frame"
)

// mark stands in the room behind lists of the tests.
const mark = 0xA5

// spared is b with room behind it that is marked, so that a write into it is seen.
func spared(b []byte) []byte {
	return append(bytes.Clone(b), mark, mark, mark, mark)[: len(b) : len(b)+4]
}

// sparedList is a list of such blocks, with more of them in the room behind it.
func sparedList(l [][]byte) [][]byte {
	out := make([][]byte, len(l), len(l)+2)
	for i, b := range l {
		out[i] = spared(b)
	}
	for i := len(l); i < cap(out); i++ {
		out[:cap(out)][i] = spared([]byte{mark})
	}
	return out
}

// whole is a copy of a list with the room behind it, and behind its blocks.
func whole(l [][]byte) [][]byte {
	out := [][]byte{}
	for _, b := range l[:cap(l)] {
		out = append(out, bytes.Clone(b[:cap(b)]))
	}
	return out
}

// spoil writes over all memory of a list, the room behind it too.
func spoil(b []byte) {
	b = b[:cap(b)]
	for i := range b {
		b[i] ^= 0xFF
	}
}

// lists are some that the calls are handed: of records, of none, and such as are refused.
func lists() map[string][][]byte {
	log := row(made(1, 1, 7, 0, some(300, 1)), made(1, 2, 8, 7, nil), made(1, 3, 9, 8, some(107, 2)))
	return map[string][][]byte{
		"a log":            row(log, made(1, 7, 30, 20, some(200, 3)), blank(2)),
		"a log alone":      log,
		"a torn one":       log[1:],
		"noughts":          blank(3),
		"none":             nil,
		"a short block":    append(copied(log), some(127, 1)),
		"a length above":   {raw(head{1, 1, 7, 0, 0, 1, 255}, some(room, 1))},
		"too many":         row(log, blank(api.MaxBlocks)),
		"a block too long": append(copied(log), some(129, 1)),
	}
}

func TestArgumentsAreOnlyRead(t *testing.T) { // P8.3
	for _, size := range []int{0, 1, 107, 108, 300, api.MaxRecord, api.MaxRecord + 1} {
		for gen := range uint32(2) {
			r := spared(some(size, 1))
			frame.Frame(gen, 1, 7, 0, r)
			if !bytes.Equal(r[:cap(r)], append(some(size, 1), mark, mark, mark, mark)) {
				t.Errorf("Frame changed a record of %d bytes, or the room behind it", size)
			}
		}
	}
	for name, l := range lists() {
		x := sparedList(l)
		was := whole(x)
		for gen := range uint32(3) {
			open(gen, 1, 0, x)
			frame.Read(gen, x)
			frame.Greatest(x)
		}
		if !same(whole(x), was) {
			t.Errorf("%s: a list that was handed in is changed, or the room behind it", name)
		}
	}
}

func TestRoomBehindListsIsNotRead(t *testing.T) { // P8.3: what stands behind a list is none of it
	three := made(1, 1, 7, 0, some(300, 1))
	if got := open(1, 1, 0, three[:2]); got != none {
		t.Errorf("Open read behind its list: %v", got)
	}
	if log := logged(t, 1, row(three, made(1, 2, 8, 7, nil))[:3]); len(log.Records) != 1 || log.Greatest != 0 {
		t.Errorf("Read read behind its list: %v", log)
	}
	if n, _ := frame.Greatest(row(three, made(9, 1, 7, 0, nil))[:3]); n != 1 {
		t.Errorf("Greatest read behind its list: %d", n)
	}
	if l := framed(t, 1, 1, 7, 0, some(300, 1)[:5]); !same(l, made(1, 1, 7, 0, some(300, 1)[:5:5])) {
		t.Errorf("Frame read behind its record: %v", l)
	}
}

func TestFramedBlocksAreNewMemory(t *testing.T) { // P8.3
	for _, size := range []int{0, 3, 107, 108, 400, api.MaxRecord} {
		r := spared(some(size, 1))
		want := made(1, 1, 7, 0, r)
		l, other := framed(t, 1, 1, 7, 0, r), framed(t, 1, 1, 7, 0, r)
		for i := range l {
			spoil(l[i])
			if !same(l[i+1:], want[i+1:]) {
				t.Fatalf("%d bytes: the block %d shares memory with one behind it", size, i)
			}
		}
		for i := range l { // all are spoilt once, if none shares with one ahead of it
			spoil(l[i])
		}
		if !same(l, want) {
			t.Errorf("%d bytes: blocks share memory", size)
		}
		for i := range l {
			spoil(l[i])
			l[i] = nil
		}
		if !same(other, want) || !bytes.Equal(r[:cap(r)], append(some(size, 1), mark, mark, mark, mark)) {
			t.Errorf("%d bytes: blocks share memory with another answer, or with the record", size)
		}
		spoil(r)
		if !same(other, want) {
			t.Errorf("%d bytes: blocks share memory with the record", size)
		}
	}
}

func TestReadRecordsAreNewMemory(t *testing.T) { // P8.3
	for name, l := range lists() {
		x := sparedList(l)
		was := whole(x)
		want, e := frame.Read(1, x)
		if e != api.OK {
			continue
		}
		log, other := logged(t, 1, x), logged(t, 1, x)
		for i, r := range log.Records {
			spoil(r)
			if !same(log.Records[i+1:], want.Records[i+1:]) {
				t.Errorf("%s: the record %d shares memory with one behind it", name, i)
			}
			log.Records[i] = nil
		}
		if !same(whole(x), was) || !sameLog(other, want) {
			t.Errorf("%s: records share memory with the blocks, or with another answer", name)
		}
		for _, b := range x {
			spoil(b)
		}
		if !sameLog(other, isLog(1, l)) {
			t.Errorf("%s: records share memory with the blocks", name)
		}
	}
}

func TestOpenedRecordIsNewMemory(t *testing.T) { // P8.3
	for _, size := range []int{1, 106, 107, 108, 300} {
		x := sparedList(made(1, 1, 7, 0, some(size, 1)))
		was := whole(x)
		r, _, _, _ := frame.Open(1, 1, 0, x)
		other, _, _, _ := frame.Open(1, 1, 0, x)
		spoil(r)
		if !same(whole(x), was) || !bytes.Equal(other, some(size, 1)) {
			t.Errorf("%d bytes: the record shares memory with the blocks, or with another answer", size)
		}
		for _, b := range x {
			spoil(b)
		}
		if !bytes.Equal(other, some(size, 1)) {
			t.Errorf("%d bytes: the record shares memory with the blocks", size)
		}
	}
}

func TestAnswersHangOnArgumentsAlone(t *testing.T) { // R2: nothing is kept from call to call
	l := lists()["a log"]
	first, want := logged(t, 1, l), open(1, 1, 0, l)
	for name, x := range lists() {
		frame.Read(1, x)
		open(2, 3, 4, x)
		frame.Greatest(x)
		framed(t, 9, 9, 9, 9, some(300, 9))
		if log := logged(t, 1, l); !sameLog(log, first) || open(1, 1, 0, l) != want {
			t.Errorf("the same calls once more, behind those of %s: other answers", name)
		}
	}
}
