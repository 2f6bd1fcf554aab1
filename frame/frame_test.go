package frame_test

import (
	"bytes"
	"strconv"
	"testing"

	"millhand/api"
	"millhand/frame"
)

func TestFrame(t *testing.T) { // P8.1
	for _, n := range []struct{ gen, number, salt, prev uint32 }{
		{1, 1, 7, 0},
		{1, 1, 0, 0},
		{1, 2, 3, 4},
		{3, 1, 0, greatest},
		{3, 1, greatest, 0},
		{greatest, greatest, greatest, greatest},
		{greatest - 1, 1 << 31, 1 << 24, 1<<16 - 1},
		{0x01020304, 0x11121314, 0x21222324, 0x31323334},
	} {
		for size, many := range map[int]int{
			0: 1, 1: 1, 3: 1, 106: 1, 107: 1, 108: 2, 213: 2, 214: 2, 215: 3, 321: 3, 322: 4, 1070: 10, 1071: 11,
			api.MaxRecord - 14: 153, // whole blocks
			api.MaxRecord - 13: 153, api.MaxRecord - 12: 154, api.MaxRecord - 1: 154, api.MaxRecord: 154,
		} {
			r := some(size, int(n.salt))
			l, e := frame.Frame(n.gen, n.number, n.salt, n.prev, r)
			if e != api.OK || len(l) != many || !same(l, made(n.gen, n.number, n.salt, n.prev, r)) {
				t.Errorf("Frame of %v and of %d bytes: %d blocks, error %d", n, size, len(l), e)
			}
		}
	}
}

func TestFrameOfNoughts(t *testing.T) { // P8.1: a record's own noughts count as its bytes
	for _, size := range []int{0, 1, 106, 107, 108, 214, 215} {
		l := framed(t, 1, 1, 7, 0, make([]byte, size))
		if !same(l, made(1, 1, 7, 0, make([]byte, size))) {
			t.Errorf("Frame of %d noughts: %v", size, l)
		}
	}
	if l := framed(t, 1, 1, 7, 0, nil); !same(l, made(1, 1, 7, 0, []byte{})) {
		t.Errorf("Frame of nil: %v", l)
	}
}

func TestFrameRefuses(t *testing.T) { // P8.1, and the order of its errors
	long := make([]byte, api.MaxRecord+1)
	for _, c := range []struct {
		gen, number uint32
		record      []byte
		e           api.Errno
	}{
		{0, 1, nil, api.ErrArg},
		{1, 0, nil, api.ErrArg},
		{0, 0, nil, api.ErrArg},
		{0, 1, long, api.ErrArg},
		{1, 0, long, api.ErrArg},
		{0, 0, long, api.ErrArg},
		{1, 1, long, api.ErrText},
		{greatest, greatest, long, api.ErrText},
		{1, 1, make([]byte, 2*api.MaxRecord), api.ErrText},
		{1, 1, long[:api.MaxRecord], api.OK},
	} {
		for _, salt := range []uint32{0, 1, greatest} {
			l, e := frame.Frame(c.gen, c.number, salt, salt, c.record)
			if e != c.e || (e != api.OK) != (len(l) == 0) {
				t.Errorf("Frame(%d, %d, .., of %d bytes): %d blocks, error %d, not %d", c.gen, c.number, len(c.record), len(l), e, c.e)
			}
		}
	}
}

func TestListsThatAreTooLong(t *testing.T) { // P8.1: of all below; a list's length is looked at ahead of its blocks
	refuse(t, "one block more than MaxBlocks", blank(api.MaxBlocks+1), api.ErrMany)
	refuse(t, "a record, and one block too many", row(made(1, 1, 7, 0, nil), blank(api.MaxBlocks)), api.ErrMany)
	refuse(t, "many more", blank(3*api.MaxBlocks), api.ErrMany)
	refuse(t, "one more, all without bytes", make([][]byte, api.MaxBlocks+1), api.ErrMany)
	refuse(t, "MaxBlocks, all without bytes", make([][]byte, api.MaxBlocks), api.ErrText)
}

func TestBlocksOfOtherLengths(t *testing.T) { // P8.1: of all below; those behind a record's blocks, too
	good := made(1, 1, 7, 0, some(200, 1))
	for _, b := range [][]byte{
		nil,
		{},
		{1},
		good[0][:api.Block-1],
		append(bytes.Clone(good[0]), 0),
		append(bytes.Clone(good[0]), good[0]...),
	} {
		name := strconv.Itoa(len(b)) + " bytes"
		refuse(t, name, [][]byte{b}, api.ErrText)
		for at := range 6 {
			l := row(good, blank(4))
			l[at] = b
			refuse(t, name+" in block "+strconv.Itoa(at), l, api.ErrText)
		}
		l := row(good, blank(api.MaxBlocks-3), [][]byte{b})
		refuse(t, name+" in the last block of MaxBlocks", l, api.ErrText)
		refuse(t, name+" in the one behind", row(good, blank(api.MaxBlocks-2), [][]byte{b}), api.ErrMany)
	}
}

// refuse lets all calls that take a list refuse it.
func refuse(t *testing.T, name string, l [][]byte, want api.Errno) {
	t.Helper()
	for _, gen := range []uint32{0, 1, 2, greatest} {
		for _, number := range []uint32{0, 1, 2} {
			if got := open(gen, number, 0, l); got != (record{e: want}) {
				t.Errorf("%s: Open(%d, %d, 0, ..): %v, not %d", name, gen, number, got, want)
			}
		}
		e := want
		if gen == 0 { // numbers are looked at ahead of lists
			e = api.ErrArg
		}
		if log, got := frame.Read(gen, l); got != e || !isZero(log) {
			t.Errorf("%s: Read(%d, ..): error %d, not %d", name, gen, got, e)
		}
	}
	if n, got := frame.Greatest(l); got != want || n != 0 {
		t.Errorf("%s: Greatest: %d, error %d, not %d", name, n, got, want)
	}
}

func TestExamples(t *testing.T) { // the chapter's
	l := framed(t, 1, 1, 7, 0, []byte("abc"))
	want := append([]byte{1, 0, 0, 0, 1, 0, 0, 0, 7, 0, 0, 0, 0, 0, 0, 0, 0, 0, 1, 0, 3, 'a', 'b', 'c'}, make([]byte, 104)...)
	if len(l) != 1 || !bytes.Equal(l[0], want) {
		t.Errorf("Frame(1, 1, 7, 0, abc): %v", l)
	}
	for i, c := range []struct{ got, want record }{
		{open(1, 1, 0, l), record{"abc", 7, 1, api.OK}},
		{open(1, 2, 0, l), none},
		{open(2, 1, 0, l), none},
	} {
		if c.got != c.want {
			t.Errorf("%d: %v, not %v", i, c.got, c.want)
		}
	}
	if log := logged(t, 1, blank(3)); !sameLog(log, api.Log{}) {
		t.Errorf("Read(1, three blocks of noughts): %v", log)
	}
	if l := framed(t, 1, 1, 7, 0, some(108, 1)); len(l) != 2 {
		t.Errorf("Frame of 108 bytes: %d blocks", len(l))
	}
	if _, e := frame.Frame(0, 1, 1, 0, nil); e != api.ErrArg {
		t.Errorf("Frame(0, 1, 1, 0, none): error %d", e)
	}
	if _, e := frame.Read(0, nil); e != api.ErrArg {
		t.Errorf("Read(0, none): error %d", e)
	}
}
