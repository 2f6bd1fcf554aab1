package batch_test

import (
	"encoding/binary"
	"math"
	"slices"
	"strings"
	"testing"

	"millhand/api"
	"millhand/batch"
)

const last = 1<<40 - 64 // the greatest number from which on a batch may be

func put(key, value string) api.Op { return api.Op{Key: key, Value: value} }
func dead(key string) api.Op       { return api.Op{Key: key, Dead: true} }
func text(many int) string         { return strings.Repeat("t", many) }
func number(n uint64) []byte       { return binary.AppendUvarint(nil, n) }
func textBytes(s string) []byte    { return append(number(uint64(len(s))), s...) }

// full are so many operations of the longest key and the longest value: 580 bytes each.
func full(many int) []api.Op { return slices.Repeat([]api.Op{put(text(64), text(512))}, many) }

// plain are the bytes of operations as the chapter tells them, without the help of the package under test; of such, too, that may not be.
func plain(seq uint64, l []api.Op) []byte {
	b := append(number(seq), number(uint64(len(l)))...)
	for _, op := range l {
		if op.Dead {
			b = append(append(b, 1), textBytes(op.Key)...)
			continue
		}
		b = append(append(b, 0), textBytes(op.Key)...)
		b = append(b, textBytes(op.Value)...)
	}
	return b
}

// plainMayBe tells whether a batch may be, by the chapter's words.
func plainMayBe(l []api.Op) bool {
	ok := len(l) >= 1 && len(l) <= 64
	for _, op := range l {
		ok = ok && len(op.Key) >= 1 && len(op.Key) <= 64 && len(op.Value) <= 512
		ok = ok && (!op.Dead || op.Value == "")
	}
	return ok
}

// sized is a batch that has so many bytes from the number 1 on.
func sized(t *testing.T, many int) []api.Op {
	t.Helper()
	for _, most := range []int{many / 580, many/580 - 1} {
		for _, key := range []int{1, 2, 60} {
			for size := range 513 {
				l := append(full(most), put("k", text(100)), put(text(key), text(size)))
				if len(plain(1, l)) == many {
					return l
				}
			}
		}
	}
	t.Fatalf("no batch of %d bytes", many)
	return nil
}

// good are batches that may be, and have room in a record.
func good() map[string][]api.Op {
	return map[string][]api.Op{
		"one put":                 {put("a", "x")},
		"one put, no value":       {put("a", "")},
		"one deleted":             {dead("a")},
		"a put, one deleted":      {put("a", "xy"), dead("b")},
		"one key again and again": {put("a", "x"), dead("a"), put("a", "y"), put("a", "y"), dead("a"), dead("a")},
		"keys that fall":          {dead("c"), put("b", "x"), put("a", "")},
		"texts of all bytes":      {put("\x00", "\x00\x01\xff"), put("\xff\x80", "\x80"), dead("\x01\x00"), put("é", "€")},
		"the longest key":         {put(text(64), "x"), dead(text(64))},
		"the longest value":       {put("a", text(512)), put("b", text(511))},
		"values of 127 and 128":   {put("a", text(127)), put("a", text(128))},
		"a batch as a value":      {put("a", string(plain(7, []api.Op{put("b", "x")}))), dead(string(plain(1, []api.Op{dead("c")})))},
		"MaxBatch put":            slices.Repeat([]api.Op{put("a", "x")}, 64),
		"MaxBatch deleted":        slices.Repeat([]api.Op{dead(text(64))}, 64),
		"63":                      slices.Repeat([]api.Op{put("a", ""), dead("b"), put("c", "x")}, 21),
		"28 of the longest":       full(28),
	}
}

// seqs are numbers from which on a batch may be.
func seqs() []int {
	l := []int{1, 2, 300, last - 1, last}
	for i := range 40 {
		if i > 0 {
			l = append(l, 1<<i-1, 1<<i)
		}
	}
	return l
}

// noSeqs are numbers from which on none may be.
func noSeqs() []int {
	return []int{
		0, -1, -300, math.MinInt, math.MinInt + 1, math.MinInt32, -last,
		last + 1, last + 63, 1 << 40, 1<<40 + 1, 1 << 41, 1<<40 + last, math.MaxInt, 1 << 62,
	}
}

// bad are operations that may not be.
func bad() map[string]api.Op {
	return map[string]api.Op{
		"zero":                        {},
		"no key":                      put("", "x"),
		"no key, deleted":             dead(""),
		"a key of 65 bytes":           put(text(65), "x"),
		"a key of 65 bytes, deleted":  dead(text(65)),
		"a key of 33 runes, 66 bytes": put(strings.Repeat("é", 33), "x"),
		"a very long key":             put(text(1<<20), "x"),
		"a value of 513 bytes":        put("a", text(513)),
		"a value of 257 runes":        put("a", strings.Repeat("é", 257)),
		"a very long value":           put("a", text(1<<20)),
		"deleted, with a value":       {Key: "a", Dead: true, Value: "x"},
		"deleted, with a byte 0":      {Key: "a", Dead: true, Value: "\x00"},
		"deleted, the longest value":  {Key: "a", Dead: true, Value: text(512)},
		"deleted, too long a value":   {Key: "a", Dead: true, Value: text(513)},
		"no key, too long a value":    put("", text(513)),
		"too long both":               put(text(65), text(513)),
	}
}

// placed are batches of so many that may be, with one that may not be at each of some places.
func placed(op api.Op) [][]api.Op {
	var out [][]api.Op
	for _, c := range []struct{ many, at int }{{1, 0}, {2, 0}, {2, 1}, {3, 1}, {64, 0}, {64, 31}, {64, 63}} {
		l := slices.Repeat([]api.Op{put("a", "x")}, c.many)
		l[c.at] = op
		out = append(out, l)
	}
	return out
}

// tooMany are lists that are no batches, for how many they are.
func tooMany() map[string][]api.Op {
	return map[string][]api.Op{
		"nil":                nil,
		"none":               {},
		"65":                 slices.Repeat([]api.Op{put("a", "x")}, 65),
		"65 deleted":         slices.Repeat([]api.Op{dead("a")}, 65),
		"65 that may not be": make([]api.Op, 65),
		"128":                slices.Repeat([]api.Op{put("a", "x")}, 128),
		"65 of the longest":  full(65),
		"65,537":             make([]api.Op, 1<<16+1),
	}
}

func wantUnread(t *testing.T, what string, b []byte, want api.Errno) {
	t.Helper()
	if seq, l, e := batch.Read(b); seq != 0 || len(l) != 0 || e != want {
		t.Errorf("%s: Read: %d, %v, error %d, not %d", what, seq, l, e, want)
	}
}

func wantRead(t *testing.T, what string, b []byte, seq int, l []api.Op) {
	t.Helper()
	if s, got, e := batch.Read(b); s != seq || !slices.Equal(got, l) || e != api.OK {
		t.Errorf("%s: Read: %d, %v, error %d", what, s, got, e)
	}
}
