package table_test

import (
	"bytes"
	"encoding/binary"
	"hash/fnv"
	"math"
	"math/rand"
	"slices"
	"strconv"
	"strings"
	"testing"

	"millhand/api"
	"millhand/table"
)

const maxSeq = 1 << 40

func e(key string, seq int, value string) api.Entry {
	return api.Entry{Key: key, Seq: seq, Value: value}
}
func gone(key string, seq int) api.Entry { return api.Entry{Key: key, Seq: seq, Dead: true} }
func text(many int) string               { return strings.Repeat("t", many) }
func number(n int) []byte                { return binary.AppendUvarint(nil, uint64(n)) }
func textBytes(s string) []byte          { return append(number(len(s)), s...) }
func four(n int) []byte                  { return binary.LittleEndian.AppendUint32(nil, uint32(n)) }

// plainBlock are the bytes of a block as chapter 12 tells them, of what may not be, too.
func plainBlock(l []api.Entry) []byte {
	b := number(len(l))
	for i, x := range l {
		same := 0
		if i > 0 {
			for same = len(x.Key); !strings.HasPrefix(l[i-1].Key, x.Key[:same]); same-- {
			}
		}
		b = append(append(b, number(same)...), textBytes(x.Key[same:])...)
		b = append(b, number(x.Seq)...)
		if x.Dead {
			b = append(b, 1)
			continue
		}
		b = append(append(b, 0), textBytes(x.Value)...)
	}
	return b
}

// plainSieve is the sieve of keys as chapter 13 tells it. (Its hash is the library's FNV-1a.)
func plainSieve(keys []string) []byte {
	b := make([]byte, max(8, len(keys)))
	many := uint64(len(b)) * 8
	for _, key := range keys {
		f := fnv.New64a()
		f.Write([]byte(key))
		h := f.Sum64()
		for i := range uint64(4) {
			n := (h%(1<<32) + i*(h>>32|1)) % many
			b[n/8] |= 1 << (n % 8)
		}
	}
	return b
}

// plainKeys are the keys of entries, each once, rising.
func plainKeys(l []api.Entry) (keys []string) {
	for _, x := range l {
		if !slices.Contains(keys, x.Key) {
			keys = append(keys, x.Key)
		}
	}
	slices.Sort(keys)
	return keys
}

// plainCut cuts entries into those of the blocks of their table: each beginning is asked.
func plainCut(l []api.Entry) (rows [][]api.Entry) {
	for len(l) > 0 {
		n := 1
		for n < len(l) && len(plainBlock(l[:n+1])) <= 1024 {
			n++
		}
		rows = append(rows, l[:n])
		l = l[n:]
	}
	return rows
}

// pieces are the parts of a table one by one, so that each can be put wrong.
type pieces struct {
	blocks [][]byte
	sieve  []byte
	count  []byte
	index  [][]byte
	end    []byte
}

func (p pieces) body() []byte { return slices.Concat(p.blocks...) }
func (p pieces) bytes() []byte {
	return slices.Concat(p.body(), p.sieve, p.count, slices.Concat(p.index...), p.end)
}

// laid are the pieces of what would be a table of rows, each of which is a block's, if they were cut well.
func laid(rows [][]api.Entry) (p pieces) {
	for _, l := range rows {
		b := plainBlock(l)
		p.blocks = append(p.blocks, b)
		last := ""
		if len(l) > 0 {
			last = l[len(l)-1].Key
		}
		p.index = append(p.index, append(textBytes(last), number(len(b))...))
	}
	l := slices.Concat(rows...)
	p.sieve, p.count = plainSieve(plainKeys(l)), number(len(rows))
	p.end = slices.Concat(four(len(p.body())), four(len(p.sieve)), four(len(l)))
	return p
}

// plain are the bytes of the table of entries, without the help of the package under test or those below it; of what may not be, too.
func plain(l []api.Entry) []byte { return laid(plainCut(l)).bytes() }

// ahead tells whether x stands ahead of y, by the chapter's words.
func ahead(x, y api.Entry) bool {
	return x.Key < y.Key || x.Key == y.Key && x.Seq > y.Seq
}

// plainMayBe tells whether entries may be and stand in order, by the chapter's words: each pair of them is asked.
func plainMayBe(l []api.Entry) bool {
	for i, x := range l {
		ok := len(x.Key) >= 1 && len(x.Key) <= 64 && x.Seq >= 1 && x.Seq <= 1<<40
		if !ok || len(x.Value) > 512 || x.Dead && x.Value != "" {
			return false
		}
		for _, y := range l[i+1:] {
			if !ahead(x, y) {
				return false
			}
		}
	}
	return true
}

// plainBuild is what Build is to answer.
func plainBuild(l []api.Entry) ([]byte, api.Meta, api.Errno) {
	if len(l) == 0 || len(l) > 1024 {
		return nil, api.Meta{}, api.ErrMany
	}
	if !plainMayBe(l) {
		return nil, api.Meta{}, api.ErrBad
	}
	b := plain(l)
	if len(b) > 16384 {
		return nil, api.Meta{}, api.ErrText
	}
	return b, api.Meta{Size: len(b), Many: len(l), Low: plainKeys(l)[0], High: l[len(l)-1].Key}, api.OK
}

// loosely are entries that bytes may tell: one block behind the other, from the first byte on, till as many entries are had as the end tells. Whether they are those bytes' is asked by building them.
func loosely(b []byte) (l []api.Entry, ok bool) {
	if len(b) < 12 {
		return nil, false
	}
	many := uint64(binary.LittleEndian.Uint32(b[len(b)-4:]))
	r := bytes.NewReader(b)
	read := func() uint64 {
		n, err := binary.ReadUvarint(r)
		if err != nil {
			panic(err)
		}
		return n
	}
	cut := func(n uint64) string {
		if n > uint64(r.Len()) {
			panic("too short")
		}
		s := make([]byte, n)
		r.Read(s)
		return string(s)
	}
	defer func() {
		if recover() != nil {
			l, ok = nil, false
		}
	}()
	for uint64(len(l)) < many {
		before := ""
		for n := read(); n > 0; n-- {
			var x api.Entry
			x.Key = before[:read()]
			x.Key += cut(read())
			x.Seq = int(read())
			if x.Dead = read() == 1; !x.Dead {
				x.Value = cut(read())
			}
			l, before = append(l, x), x.Key
		}
	}
	return l, true
}

// plainRead is what Read is to answer.
func plainRead(b []byte) ([]api.Entry, api.Errno) {
	if len(b) > 16384 {
		return nil, api.ErrText
	}
	l, ok := loosely(b)
	if !ok {
		return nil, api.ErrBad
	}
	if again, _, err := plainBuild(l); err != api.OK || !bytes.Equal(again, b) {
		return nil, api.ErrBad
	}
	return l, api.OK
}

// plainGet asks each entry.
func plainGet(l []api.Entry, key string, seq int) (best api.Entry, is bool) {
	for _, x := range l {
		if x.Key == key && x.Seq <= seq && (!is || x.Seq > best.Seq) {
			best, is = x, true
		}
	}
	return best, is
}

// plainRange asks each entry.
func plainRange(l []api.Entry, from, to string) (out []api.Entry) {
	for _, x := range l {
		if x.Key >= from && (to == "" || x.Key < to) {
			out = append(out, x)
		}
	}
	return out
}

// newest are so many entries of one key.
func newest(n int, key string) (l []api.Entry) {
	for i := range n {
		l = append(l, gone(key, n-i))
	}
	return l
}

// keyed are so many entries of keys that rise.
func keyed(n int, value string) (l []api.Entry) {
	for i := range n {
		l = append(l, e("k"+strconv.Itoa(1000+i), 1+i*7919%1000, value))
	}
	return l
}

// mixed are so many entries, up to three of a key, some of them dead, of values of up to so many bytes.
func mixed(n, value int) (l []api.Entry) {
	for i := 0; len(l) < n; i++ {
		key := "mixed " + strconv.Itoa(10000+i)
		for k := range min(1+i%3, n-len(l)) {
			x := e(key, 900-9*k, text((i*31+k)%(value+1)))
			if (i+k)%4 == 0 {
				x = gone(key, x.Seq)
			}
			l = append(l, x)
		}
	}
	return l
}

// longest are so many entries, as long as can be, two of each key.
func longest(n int) (l []api.Entry) {
	for i := range n {
		key := strconv.Itoa(1000+i/2) + text(60)
		l = append(l, e(key, maxSeq-i%2, text(512)))
	}
	return l
}

// blockOf are entries whose block has so many bytes.
func blockOf(t *testing.T, size int) []api.Entry {
	t.Helper()
	for value := range 513 {
		l := []api.Entry{e("a", 2, text(512)), e("a", 1, text(value))}
		if len(plainBlock(l)) == size {
			return l
		}
	}
	t.Fatalf("no block of %d bytes", size)
	return nil
}

// sized are entries whose table has so many bytes.
func sized(t *testing.T, size int) []api.Entry {
	t.Helper()
	for n := 20; n < 40; n++ {
		least := len(plain(append(longest(n), e("z", 1, ""))))
		for value := max(0, size-least-8); value <= min(512, size-least); value++ { // but for a few bytes the value is what grows
			l := append(longest(n), e("z", 1, text(value)))
			if len(plain(l)) == size {
				return l
			}
		}
	}
	t.Fatalf("no table of %d bytes", size)
	return nil
}

func example() []api.Entry { return []api.Entry{e("a", 2, "x"), gone("b", 1)} }

// good are entries that have a table.
func good() map[string][]api.Entry {
	return map[string][]api.Entry{
		"the example":            example(),
		"one":                    {e("a", 1, "x")},
		"one deleted":            {gone("a", 1)},
		"no value":               {e("a", 1, "")},
		"the greatest number":    {e("a", maxSeq, "x"), gone("a", maxSeq-1), e("b", maxSeq, "")},
		"the longest":            longest(1),
		"the longest, of a key":  longest(2),
		"many of the longest":    longest(20),
		"the longest keys":       {e(text(63), 1, ""), e(text(64), 2, ""), gone(text(63)+"u", 1), e(text(63)+"v", 9, "x")},
		"begins the other one":   {e("a", 1, ""), e("a\x00", 9, "x"), e("a\x00\x00", 4, ""), gone("ab", 7), e("b", 2, "")},
		"texts of all bytes":     {e("\x00", 4, "\x00\xff"), e("\x7f", 3, ""), e("\x80", 2, "\x80"), gone("\xff", 1), e("\xff\xff", 9, "€")},
		"a table as a value":     {e("a", 1, string(plain(example())))},
		"127":                    keyed(127, ""),
		"128":                    keyed(128, ""),
		"1,023":                  keyed(1023, ""),
		"1,024":                  keyed(1024, ""),
		"1,024, long":            keyed(1024, "vvvvv"),
		"1,024 of one key":       newest(1024, "k"),
		"1,024 of a long key":    newest(1024, text(64)),
		"1,024, mixed":           mixed(1024, 4),
		"few, mixed":             mixed(9, 40),
		"some, mixed":            mixed(60, 200),
		"blocks that end a key":  append(longest(4), e("z", 1, "")),
		"blocks that cut a key":  slices.Concat([]api.Entry{e("0", 1, "")}, longest(6)),
		"a long one, then short": append(longest(1), keyed(300, "")...),
		"short, then a long one": append(newest(150, "0"), longest(1)...),
	}
}

// badEntries are such as may not be.
func badEntries() map[string]api.Entry {
	return map[string]api.Entry{
		"zero":                       {},
		"no key":                     e("", 2, "x"),
		"no key, deleted":            gone("", 2),
		"a key of 65 bytes":          e(strings.Repeat("k", 65), 2, "x"),
		"a key of 33 runes":          e(strings.Repeat("é", 33), 2, "x"),
		"a very long key":            e(strings.Repeat("k", 1<<16), 2, "x"),
		"the number 0":               e("k", 0, "x"),
		"a number below 0":           e("k", -1, "x"),
		"the least number":           gone("k", math.MinInt),
		"a number above MaxSeq":      e("k", maxSeq+1, "x"),
		"the greatest int":           gone("k", math.MaxInt),
		"a value of 513 bytes":       e("k", 2, text(513)),
		"a very long value":          e("k", 2, text(1<<16)),
		"deleted, with a value":      {Key: "k", Seq: 2, Dead: true, Value: "x"},
		"deleted, with a byte 0":     {Key: "k", Seq: 2, Dead: true, Value: "\x00"},
		"deleted, the longest value": {Key: "k", Seq: 2, Dead: true, Value: text(512)},
	}
}

// unordered are entries each of which may be, but that don't stand in order.
func unordered() map[string][]api.Entry {
	return map[string][]api.Entry{
		"keys that fall":       {e("b", 1, ""), e("a", 1, "")},
		"numbers that rise":    {e("a", 1, ""), e("a", 2, "")},
		"one twice":            {e("a", 1, "x"), e("a", 1, "x")},
		"one twice, once dead": {e("a", 1, "x"), gone("a", 1)},
		"what is begun ahead":  {e("ab", 1, ""), e("a", 1, "")},
		"a key once more":      {e("a", 2, ""), e("b", 1, ""), e("a", 1, "")},
		"by signed bytes":      {e("\x80", 1, ""), e("\x7f", 1, "")},
		"by how long they are": {e("b", 1, ""), e("aa", 1, "")},
		"the longest, turned":  {e("b", 1, text(512)), e("a", 1, text(512))},
		"the longest, twice":   {e("a", 1, text(512)), e("a", 1, text(512))},
		"the longest, rising":  {e("a", 1, text(512)), e("a", 2, text(512))},
	}
}

// refused goes through lists that Build refuses, with what it answers.
func refused(each func(name string, l []api.Entry, want api.Errno)) {
	long := longest(40)
	each("nil", nil, api.ErrMany)
	each("none", []api.Entry{}, api.ErrMany)
	each("1,025", newest(1025, "k"), api.ErrMany)
	each("1,025 that may not be", make([]api.Entry, 1025), api.ErrMany)
	each("1,025, too long", longest(1025), api.ErrMany)
	each("65,537", make([]api.Entry, 1<<16+1), api.ErrMany)
	each("1,024, too long", longest(1024), api.ErrText)
	each("1,024 that may not be", make([]api.Entry, 1024), api.ErrBad)
	each("too long", long, api.ErrText)
	for name, x := range badEntries() {
		each(name, []api.Entry{x}, api.ErrBad)
		each(name+", first", []api.Entry{x, e("z", 1, "")}, api.ErrBad)
		each(name+", last", []api.Entry{e("a", 1, ""), x}, api.ErrBad)
		each(name+", behind too many bytes", append(slices.Clone(long), x), api.ErrBad)
		each(name+", ahead of too many bytes", append([]api.Entry{x}, long...), api.ErrBad)
		each(name+", and too many", append(newest(1024, "a"), x), api.ErrMany)
	}
	for name, l := range unordered() {
		each(name, l, api.ErrBad)
		each(name+", in another block", append(newest(500, "\x01"), l...), api.ErrBad)
		each(name+", behind too many bytes", append(slices.Clone(long), l...), api.ErrBad)
	}
}

// chance are entries in order that a seed tells, of texts that have much in common.
func chance(r *rand.Rand) []api.Entry {
	letters := []string{"\x00", "a", "b", "\xff"}[r.Intn(3):]
	longest := []int{2, 5, 64}[r.Intn(3)]
	values := []int{0, 3, 60, 512}[r.Intn(4)]
	var l []api.Entry
	for range 1 + r.Intn([]int{3, 40, 400}[r.Intn(3)]) {
		var key string
		for range 1 + r.Intn(longest) {
			key += letters[r.Intn(len(letters))]
		}
		x := gone(key, 1+r.Intn([]int{3, 300, maxSeq}[r.Intn(3)]))
		if r.Intn(3) > 0 {
			x = e(key, x.Seq, text(r.Intn(values+1)))
		}
		l = append(l, x)
	}
	slices.SortFunc(l, func(x, y api.Entry) int {
		switch {
		case ahead(x, y):
			return -1
		case ahead(y, x):
			return 1
		}
		return 0
	})
	return slices.CompactFunc(l, func(x, y api.Entry) bool { return x.Key == y.Key && x.Seq == y.Seq })
}

// built is a table that must be.
func built(t *testing.T, l []api.Entry) []byte {
	t.Helper()
	b, _, err := table.Build(l)
	if err != api.OK {
		t.Fatalf("Build of %d entries: error %d", len(l), err)
	}
	return b
}

// wantBuilt holds what Build answers against what it should.
func wantBuilt(t *testing.T, what string, l []api.Entry) api.Errno {
	t.Helper()
	b, m, err := table.Build(l)
	want, wantMeta, wantErr := plainBuild(l)
	if err != wantErr || m != wantMeta || !bytes.Equal(b, want) {
		t.Errorf("%s: %d bytes, %v, error %d, not %d bytes, %v, error %d", what, len(b), m, err, len(want), wantMeta, wantErr)
	}
	return err
}

// wantUnread asks all calls that read for bytes that are no table, with arguments that may be and such as may not.
func wantUnread(t *testing.T, what string, b []byte, want api.Errno) {
	t.Helper()
	if l, err := table.Read(b); len(l) != 0 || err != want {
		t.Errorf("%s: Read: %d entries, error %d, not %d", what, len(l), err, want)
	}
	for _, q := range []struct {
		key string
		seq int
	}{{"a", 1}, {"", 1}, {"a", -1}, {text(65), maxSeq + 1}} {
		if x, is, err := table.Get(b, q.key, q.seq); x != (api.Entry{}) || is || err != want {
			t.Errorf("%s: Get: %v, %v, error %d, not %d", what, x, is, err, want)
		}
	}
	for _, q := range [][2]string{{"", ""}, {"a", "b"}, {text(65), ""}, {"", text(65)}} {
		if l, err := table.Range(b, q[0], q[1]); len(l) != 0 || err != want {
			t.Errorf("%s: Range: %d entries, error %d, not %d", what, len(l), err, want)
		}
	}
}

func wantRead(t *testing.T, what string, b []byte, want []api.Entry) {
	t.Helper()
	if l, err := table.Read(b); !slices.Equal(l, want) || err != api.OK {
		t.Errorf("%s: Read: %d entries, not %d, error %d", what, len(l), len(want), err)
	}
}

// wantAsPlain tells whether bytes are read; they are to be just where the plain reader reads them, and as it does.
func wantAsPlain(t *testing.T, b []byte) bool {
	t.Helper()
	l, err := table.Read(b)
	want, wantErr := plainRead(b)
	if err != wantErr || !slices.Equal(l, want) {
		t.Fatalf("Read(%v): %v, error %d, not %v, error %d", b, l, err, want, wantErr)
	}
	return err == api.OK
}
