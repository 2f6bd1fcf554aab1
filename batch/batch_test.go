package batch_test

import (
	"bytes"
	"slices"
	"strings"
	"testing"

	"millhand/api"
	"millhand/batch"
)

func TestCheck(t *testing.T) { // P10.1: batches that may be, also such as have no room in a record
	for name, l := range good() {
		if e := batch.Check(l); e != api.OK {
			t.Errorf("%s: error %d", name, e)
		}
	}
	for name, l := range map[string][]api.Op{
		"64 of the longest":     full(64),
		"a key of 32 runes":     {put(strings.Repeat("é", 32), "")},
		"a value of 256 runes":  {put("a", strings.Repeat("é", 256))},
		"bytes that aren't any": {put(strings.Repeat("\xff", 64), strings.Repeat("\xff", 512)), dead("\x80")},
	} {
		if e := batch.Check(l); e != api.OK {
			t.Errorf("%s: error %d", name, e)
		}
	}
}

func TestCheckHowMany(t *testing.T) { // P10.1: none, MaxBatch and one more
	for many := range 70 {
		want := api.OK
		if many < 1 || many > 64 {
			want = api.ErrMany
		}
		if e := batch.Check(slices.Repeat([]api.Op{dead("a")}, many)); e != want {
			t.Errorf("%d: error %d, not %d", many, e, want)
		}
	}
	for name, l := range tooMany() {
		if e := batch.Check(l); e != api.ErrMany {
			t.Errorf("%s: error %d", name, e)
		}
	}
}

func TestCheckLengths(t *testing.T) { // P10.1: texts at their limits and one more
	for key := range 70 {
		for _, value := range []int{0, 1, 511, 512, 513, 600} {
			for _, is := range []bool{false, true} {
				want := api.OK
				if key < 1 || key > 64 || value > 512 || is && value > 0 {
					want = api.ErrBad
				}
				if e := batch.Check([]api.Op{{Key: text(key), Dead: is, Value: text(value)}}); e != want {
					t.Errorf("a key of %d, a value of %d, %v: error %d, not %d", key, value, is, e, want)
				}
			}
		}
	}
}

func TestCheckBad(t *testing.T) { // P10.1: wherever the one that may not be stands
	for name, op := range bad() {
		for _, l := range placed(op) {
			if e := batch.Check(l); e != api.ErrBad {
				t.Errorf("%s, among %d: error %d", name, len(l), e)
			}
		}
	}
}

func TestWrite(t *testing.T) { // P10.1: the chapter's bytes
	for _, c := range []struct {
		seq  int
		l    []api.Op
		want []byte
	}{
		{300, []api.Op{put("a", "xy"), dead("b")}, []byte{172, 2, 2, 0, 1, 97, 2, 120, 121, 1, 1, 98}},
		{1, []api.Op{put("a", "")}, []byte{1, 1, 0, 1, 97, 0}},
		{1, []api.Op{dead("a")}, []byte{1, 1, 1, 1, 97}},
		{127, []api.Op{dead("a")}, []byte{127, 1, 1, 1, 97}},
		{128, []api.Op{dead("a")}, []byte{128, 1, 1, 1, 1, 97}},
		{last, []api.Op{put("\x00\xff", "\x00")}, []byte{192, 255, 255, 255, 255, 31, 1, 0, 2, 0, 255, 1, 0}},
		{2, []api.Op{dead("ab"), dead("ab"), put("ab", "ab")}, []byte{2, 3, 1, 2, 97, 98, 1, 2, 97, 98, 0, 2, 97, 98, 2, 97, 98}},
		{1, []api.Op{put("a", text(128))}, append([]byte{1, 1, 0, 1, 97, 128, 1}, text(128)...)},
		{1, []api.Op{put("a", text(512))}, append([]byte{1, 1, 0, 1, 97, 128, 4}, text(512)...)},
		{1, []api.Op{dead(text(64))}, append([]byte{1, 1, 1, 64}, text(64)...)},
	} {
		if b, e := batch.Write(c.seq, c.l); e != api.OK || !bytes.Equal(b, c.want) {
			t.Errorf("Write(%d, %v): %v, error %d, not %v", c.seq, c.l, b, e, c.want)
		}
	}
	for name, l := range good() {
		for _, seq := range seqs() {
			if len(plain(uint64(seq), l)) > api.MaxRecord {
				t.Fatalf("%s from %d on has no room", name, seq)
			}
			if b, e := batch.Write(seq, l); e != api.OK || !bytes.Equal(b, plain(uint64(seq), l)) {
				t.Errorf("%s from %d on: %v, error %d", name, seq, b, e)
			}
		}
	}
}

func TestWriteLength(t *testing.T) { // P10.1: MaxRecord bytes and one more
	for _, many := range []int{5000, 16382, 16383, 16384, 16385, 16386, 20000} {
		l := sized(t, many)
		b, e := batch.Write(1, l)
		if many <= 16384 && (e != api.OK || !bytes.Equal(b, plain(1, l))) {
			t.Errorf("%d bytes: %d bytes, error %d", many, len(b), e)
		}
		if many > 16384 && (e != api.ErrText || len(b) != 0) {
			t.Errorf("%d bytes: %d bytes, error %d", many, len(b), e)
		}
	}
	l := sized(t, 16384) // a number of one byte more is one too many
	for seq, want := range map[int]api.Errno{1: api.OK, 127: api.OK, 128: api.ErrText, last: api.ErrText} {
		if b, e := batch.Write(seq, l); e != want || (len(b) == 0) != (e != api.OK) {
			t.Errorf("from %d on: %d bytes, error %d, not %d", seq, len(b), e, want)
		}
	}
	for _, many := range []int{29, 30, 64} {
		if b, e := batch.Write(1, full(many)); e != api.ErrText || len(b) != 0 {
			t.Errorf("%d of the longest: %d bytes, error %d", many, len(b), e)
		}
	}
}

func TestWriteRefuses(t *testing.T) { // P10.1: ErrArg, then ErrMany, then ErrBad, then ErrText
	refused := func(what string, seq int, l []api.Op, want api.Errno) {
		t.Helper()
		if b, e := batch.Write(seq, l); e != want || len(b) != 0 {
			t.Errorf("%s from %d on: %v, error %d, not %d", what, seq, b, e, want)
		}
	}
	for _, seq := range noSeqs() {
		refused("a batch", seq, []api.Op{put("a", "x")}, api.ErrArg)
		refused("none", seq, nil, api.ErrArg)
		refused("too many", seq, full(65), api.ErrArg)
		refused("one that may not be", seq, []api.Op{{}}, api.ErrArg)
		refused("too long ones", seq, full(64), api.ErrArg)
	}
	for name, l := range tooMany() {
		for _, seq := range []int{1, last} {
			refused(name, seq, l, api.ErrMany)
		}
	}
	for name, op := range bad() {
		for _, l := range placed(op) {
			refused(name, 1, l, api.ErrBad)
			refused(name, last, l, api.ErrBad)
		}
		refused(name+", behind too long ones", 1, append(full(63), op), api.ErrBad)
	}
}

func TestEntries(t *testing.T) { // P10.2
	l := []api.Op{put("a", "xy"), dead("b")}
	want := []api.Entry{{Key: "a", Seq: 300, Value: "xy"}, {Key: "b", Seq: 301, Dead: true}}
	if x, e := batch.Entries(300, l); e != api.OK || !slices.Equal(x, want) {
		t.Errorf("Entries: %v, error %d", x, e)
	}
	all := good()
	all["64 of the longest, more than a record"] = full(64)
	for name, l := range all {
		for _, seq := range seqs() {
			var want []api.Entry
			for _, op := range l {
				want = append(want, api.Entry{Key: op.Key, Seq: seq + len(want), Dead: op.Dead, Value: op.Value})
			}
			if x, e := batch.Entries(seq, l); e != api.OK || !slices.Equal(x, want) {
				t.Errorf("%s from %d on: %v, error %d", name, seq, x, e)
			}
		}
	}
	if x, _ := batch.Entries(last, full(64)); len(x) != 64 || x[63].Seq != api.MaxSeq-1 {
		t.Errorf("the last number: %v", x)
	}
}

func TestEntriesRefuses(t *testing.T) { // P10.2: ErrArg, then ErrMany, then ErrBad
	refused := func(what string, seq int, l []api.Op, want api.Errno) {
		t.Helper()
		if x, e := batch.Entries(seq, l); e != want || len(x) != 0 {
			t.Errorf("%s from %d on: %v, error %d, not %d", what, seq, x, e, want)
		}
	}
	for _, seq := range noSeqs() {
		refused("a batch", seq, []api.Op{put("a", "x")}, api.ErrArg)
		refused("none", seq, nil, api.ErrArg)
		refused("too many", seq, full(65), api.ErrArg)
		refused("one that may not be", seq, []api.Op{{}}, api.ErrArg)
	}
	for name, l := range tooMany() {
		refused(name, 1, l, api.ErrMany)
		refused(name, last, l, api.ErrMany)
	}
	for name, op := range bad() {
		for _, l := range placed(op) {
			refused(name, 1, l, api.ErrBad)
			refused(name, last, l, api.ErrBad)
		}
	}
}
