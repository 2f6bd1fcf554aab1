package block_test

import (
	"bytes"
	"encoding/binary"
	"math"
	"math/rand"
	"slices"
	"strconv"
	"strings"
	"testing"

	"millhand/api"
	"millhand/block"
)

const maxSeq = 1 << 40

func e(key string, seq int, value string) api.Entry {
	return api.Entry{Key: key, Seq: seq, Value: value}
}
func gone(key string, seq int) api.Entry { return api.Entry{Key: key, Seq: seq, Dead: true} }
func text(many int) string               { return strings.Repeat("t", many) }
func number(n uint64) []byte             { return binary.AppendUvarint(nil, n) }
func textBytes(s string) []byte          { return append(number(uint64(len(s))), s...) }

// plain are the bytes of entries as the chapter tells them, without the help of the package under test; of such, too, that may not be.
func plain(l []api.Entry) []byte {
	b := number(uint64(len(l)))
	for i, x := range l {
		same := 0
		if i > 0 {
			for same = len(x.Key); !strings.HasPrefix(l[i-1].Key, x.Key[:same]); same-- {
			}
		}
		b = append(append(b, number(uint64(same))...), textBytes(x.Key[same:])...)
		b = append(b, number(uint64(x.Seq))...)
		if x.Dead {
			b = append(b, 1)
			continue
		}
		b = append(append(b, 0), textBytes(x.Value)...)
	}
	return b
}

// ahead tells whether x stands ahead of y, by the chapter's words.
func ahead(x, y api.Entry) bool {
	return x.Key < y.Key || x.Key == y.Key && x.Seq > y.Seq
}

// plainMayBe tells whether entries may be and stand in order, by the chapter's words: each pair of them is asked.
func plainMayBe(l []api.Entry) bool {
	for i, x := range l {
		ok := len(x.Key) >= 1 && len(x.Key) <= 64 && x.Seq >= 1 && x.Seq <= 1<<40
		if !ok || len(x.Value) > 512 || x.Dead && x.Value != "" {
			return false
		}
		for _, y := range l[i+1:] {
			if !ahead(x, y) {
				return false
			}
		}
	}
	return true
}

// plainWrite is what Write is to answer.
func plainWrite(l []api.Entry) ([]byte, api.Errno) {
	if len(l) == 0 || len(l) > 1024 {
		return nil, api.ErrMany
	}
	if !plainMayBe(l) {
		return nil, api.ErrBad
	}
	if b := plain(l); len(b) <= 2048 {
		return b, api.OK
	}
	return nil, api.ErrText
}

// loosely are entries that bytes may tell, read without asking what may be: whether they are those bytes' is asked by writing them.
func loosely(b []byte) (l []api.Entry, ok bool) {
	r := bytes.NewReader(b)
	read := func() uint64 {
		n, err := binary.ReadUvarint(r)
		if err != nil {
			panic(err)
		}
		return n
	}
	cut := func(n uint64) string {
		if n > uint64(r.Len()) {
			panic("too short")
		}
		s := make([]byte, n)
		r.Read(s)
		return string(s)
	}
	defer func() {
		if recover() != nil {
			l, ok = nil, false
		}
	}()
	before := ""
	for n := read(); n > 0; n-- {
		var x api.Entry
		x.Key = before[:read()]
		x.Key += cut(read())
		x.Seq = int(read())
		if x.Dead = read() == 1; !x.Dead {
			x.Value = cut(read())
		}
		l, before = append(l, x), x.Key
	}
	return l, true
}

// plainRead is what Read is to answer.
func plainRead(b []byte) ([]api.Entry, api.Errno) {
	if len(b) > 2048 {
		return nil, api.ErrText
	}
	l, ok := loosely(b)
	if !ok {
		return nil, api.ErrBad
	}
	if again, err := plainWrite(l); err != api.OK || !bytes.Equal(again, b) {
		return nil, api.ErrBad
	}
	return l, api.OK
}

// plainFind asks each entry.
func plainFind(l []api.Entry, key string, seq int) (best api.Entry, is bool) {
	for _, x := range l {
		if x.Key == key && x.Seq <= seq && (!is || x.Seq > best.Seq) {
			best, is = x, true
		}
	}
	return best, is
}

// newest are so many entries of one key.
func newest(n int, key string) (l []api.Entry) {
	for i := range n {
		l = append(l, gone(key, n-i))
	}
	return l
}

// most are as many entries as a block can have: four bytes each, but one more for each of five keys, as numbers of one byte end with 127.
func most() (l []api.Entry) {
	for _, key := range []string{"a", "b", "c", "d"} {
		l = append(l, newest(127, key)...)
	}
	return append(l, newest(2, "e")...)
}

// keyed are so many entries of keys that rise.
func keyed(n int) (l []api.Entry) {
	for i := range n {
		l = append(l, e("k"+strconv.Itoa(1000+i), 1+i*7919%1000, ""))
	}
	return l
}

// sized are entries whose block has so many bytes.
func sized(t *testing.T, many int) []api.Entry {
	t.Helper()
	for size := range 513 {
		l := []api.Entry{e("a", 4, text(512)), e("a", 3, text(512)), e("a", 2, text(500)), e("a", 1, text(size))}
		if len(plain(l)) == many {
			return l
		}
	}
	t.Fatalf("no block of %d bytes", many)
	return nil
}

func example() []api.Entry { return []api.Entry{e("ab", 2, "x"), gone("ab", 1), e("ac", 7, "")} }

// good are entries that have a block.
func good() map[string][]api.Entry {
	return map[string][]api.Entry{
		"the example":          example(),
		"one":                  {e("a", 1, "x")},
		"one deleted":          {gone("a", 1)},
		"no value":             {e("a", 1, "")},
		"the greatest number":  {e("a", maxSeq, "x"), gone("a", maxSeq-1), e("b", maxSeq, "")},
		"the longest texts":    {e(text(64), maxSeq, text(512)), gone(text(64), 1)},
		"the longest keys":     {e(text(63), 1, ""), e(text(64), 2, ""), gone(text(63)+"u", 1), e(text(63)+"v", 9, "x")},
		"values of 127, 128":   {e("a", 2, text(127)), e("a", 1, text(128))},
		"numbers of 127, 128":  {e("a", 128, ""), e("a", 127, ""), gone("b", 16384), gone("b", 16383)},
		"one key":              {e("a", 9, ""), gone("a", 7), e("a", 2, "x"), gone("a", 1)},
		"one number":           {e("a", 5, "x"), gone("b", 5), e("c", 5, "")},
		"begins the other one": {e("a", 1, ""), e("a\x00", 9, "x"), e("a\x00\x00", 4, ""), gone("ab", 7), e("b", 2, "")},
		"ends and begins":      {e("abcd", 1, ""), e("abce", 2, ""), e("abd", 1, ""), gone("b", 1), e("bbcd", 3, "")},
		"texts of all bytes":   {e("\x00", 4, "\x00\xff"), e("\x7f", 3, ""), e("\x80", 2, "\x80"), gone("\xff", 1), e("\xff\xff", 9, "€")},
		"half a rune":          {e("é", 1, "x"), e("ê", 1, "y")},
		"a block as a value":   {e("a", 1, string(plain(example())))},
		"128":                  keyed(128),
		"200":                  keyed(200),
		"of one key":           newest(127, "k"),
		"as many as can be":    most(),
	}
}

// badEntries are such as may not be.
func badEntries() map[string]api.Entry {
	return map[string]api.Entry{
		"zero":                       {},
		"no key":                     e("", 2, "x"),
		"no key, deleted":            gone("", 2),
		"a key of 65 bytes":          e(strings.Repeat("k", 65), 2, "x"),
		"a key of 65, deleted":       gone(strings.Repeat("k", 65), 2),
		"a key of 33 runes":          e(strings.Repeat("é", 33), 2, "x"),
		"a very long key":            e(strings.Repeat("k", 1<<16), 2, "x"),
		"the number 0":               e("k", 0, "x"),
		"a number below 0":           e("k", -1, "x"),
		"the least number":           gone("k", math.MinInt),
		"a number above MaxSeq":      e("k", maxSeq+1, "x"),
		"the greatest int":           gone("k", math.MaxInt),
		"a value of 513 bytes":       e("k", 2, text(513)),
		"a value of 257 runes":       e("k", 2, strings.Repeat("é", 257)),
		"a very long value":          e("k", 2, text(1<<16)),
		"deleted, with a value":      {Key: "k", Seq: 2, Dead: true, Value: "x"},
		"deleted, with a byte 0":     {Key: "k", Seq: 2, Dead: true, Value: "\x00"},
		"deleted, the longest value": {Key: "k", Seq: 2, Dead: true, Value: text(512)},
	}
}

// unordered are entries each of which may be, but that don't stand in order.
func unordered() map[string][]api.Entry {
	return map[string][]api.Entry{
		"keys that fall":          {e("b", 1, ""), e("a", 1, "")},
		"numbers that rise":       {e("a", 1, ""), e("a", 2, "")},
		"one twice":               {e("a", 1, "x"), e("a", 1, "x")},
		"one twice, once dead":    {e("a", 1, "x"), gone("a", 1)},
		"what is begun ahead":     {e("ab", 1, ""), e("a", 1, "")},
		"falls at the end":        {e("a", 1, ""), e("c", 1, ""), e("b", 1, "")},
		"rises at the end":        {e("a", 1, ""), e("b", 1, ""), e("b", 2, "")},
		"a key once more":         {e("a", 2, ""), e("b", 1, ""), e("a", 1, "")},
		"by signed bytes":         {e("\x80", 1, ""), e("\x7f", 1, "")},
		"by how long they are":    {e("b", 1, ""), e("aa", 1, "")},
		"falls behind much alike": {e(text(63)+"b", 1, ""), e(text(63)+"a", 2, "")},
	}
}

// refused goes through lists that Write refuses, with what it answers.
func refused(each func(name string, l []api.Entry, want api.Errno)) {
	each("nil", nil, api.ErrMany)
	each("none", []api.Entry{}, api.ErrMany)
	each("1,025", newest(1025, "k"), api.ErrMany)
	each("1,025 that may not be", make([]api.Entry, 1025), api.ErrMany)
	each("65,537", make([]api.Entry, 1<<16+1), api.ErrMany)
	each("1,024, too long", newest(1024, "k"), api.ErrText)
	each("1,024 that may not be", make([]api.Entry, 1024), api.ErrBad)
	for name, x := range badEntries() {
		each(name, []api.Entry{x}, api.ErrBad)
		each(name+", first", []api.Entry{x, e("z", 1, "")}, api.ErrBad)
		each(name+", last", []api.Entry{e("a", 1, ""), x}, api.ErrBad)
		each(name+", behind too many bytes", append(newest(1023, "a"), x), api.ErrBad)
		each(name+", and too many", append(newest(1024, "a"), x), api.ErrMany)
	}
	for name, l := range unordered() {
		each(name, l, api.ErrBad)
		each(name+", behind too many bytes", append(newest(1000, "\x01"), l...), api.ErrBad)
	}
}

// chance are entries in order that a seed tells, of texts that have much in common.
func chance(r *rand.Rand) []api.Entry {
	letters := []string{"\x00", "a", "b", "\xff"}[r.Intn(3):]
	longest := []int{2, 5, 64}[r.Intn(3)]
	values := []int{0, 3, 60, 300}[r.Intn(4)]
	var l []api.Entry
	for range 1 + r.Intn([]int{3, 20, 200}[r.Intn(3)]) {
		var key string
		for range 1 + r.Intn(longest) {
			key += letters[r.Intn(len(letters))]
		}
		x := gone(key, 1+r.Intn([]int{3, 300, maxSeq}[r.Intn(3)]))
		if r.Intn(3) > 0 {
			x = e(key, x.Seq, text(r.Intn(values+1)))
		}
		l = append(l, x)
	}
	slices.SortFunc(l, func(x, y api.Entry) int {
		switch {
		case ahead(x, y):
			return -1
		case ahead(y, x):
			return 1
		}
		return 0
	})
	return slices.CompactFunc(l, func(x, y api.Entry) bool { return x.Key == y.Key && x.Seq == y.Seq })
}

func wantUnread(t *testing.T, what string, b []byte, want api.Errno) {
	t.Helper()
	if l, err := block.Read(b); len(l) != 0 || err != want {
		t.Errorf("%s: Read: %v, error %d, not %d", what, l, err, want)
	}
	for _, q := range []struct {
		key string
		seq int
	}{{"a", 1}, {"", 1}, {"a", -1}, {text(65), maxSeq + 1}} {
		if x, is, err := block.Find(b, q.key, q.seq); x != (api.Entry{}) || is || err != want {
			t.Errorf("%s: Find: %v, %v, error %d, not %d", what, x, is, err, want)
		}
	}
}

func wantRead(t *testing.T, what string, b []byte, want []api.Entry) {
	t.Helper()
	if l, err := block.Read(b); !slices.Equal(l, want) || err != api.OK {
		t.Errorf("%s: Read: %v, error %d", what, l, err)
	}
}

// wantAsPlain tells whether bytes are read; they are to be just where the plain reader reads them, and as it does.
func wantAsPlain(t *testing.T, b []byte) bool {
	t.Helper()
	l, err := block.Read(b)
	want, wantErr := plainRead(b)
	if err != wantErr || !slices.Equal(l, want) {
		t.Fatalf("Read(%v): %v, error %d, not %v, error %d", b, l, err, want, wantErr)
	}
	return err == api.OK
}
