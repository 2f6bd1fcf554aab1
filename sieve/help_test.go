package sieve_test

import (
	"hash/fnv"
	"math/rand"
	"slices"
	"strconv"
	"strings"
	"testing"

	"millhand/api"
	"millhand/sieve"
)

// text is so many bytes of a text.
func text(n int) string { return strings.Repeat("t", n) }

// numbered are so many keys, each another one.
func numbered(n int) []string {
	var out []string
	for i := range n {
		out = append(out, "key "+strconv.Itoa(i))
	}
	return out
}

// plainBits are the numbers of a key's bits in a sieve of so many bytes, as the chapter's words tell them, without the help of the package under test. (The chapter's hash is the library's FNV-1a.)
func plainBits(key string, size int) []uint64 {
	f := fnv.New64a()
	f.Write([]byte(key))
	h := f.Sum64()
	lower, upper := h%4294967296, h/4294967296
	if upper%2 == 0 {
		upper++
	}
	many := uint64(size) * 8
	return []uint64{lower % many, (lower + upper) % many, (lower + 2*upper) % many, (lower + 3*upper) % many}
}

// plain is the sieve of keys, in so many bytes.
func plain(keys []string, size int) []byte {
	b := make([]byte, size)
	for _, key := range keys {
		for _, n := range plainBits(key, size) {
			b[n/8] |= 1 << (n % 8)
		}
	}
	return b
}

// plainMay tells whether all of a key's bits are set.
func plainMay(b []byte, key string) bool {
	return !slices.ContainsFunc(plainBits(key, len(b)), func(n uint64) bool { return b[n/8]>>(n%8)%2 == 0 })
}

// chance is a key of any bytes.
func chance(r *rand.Rand) string {
	b := make([]byte, 1+r.Intn(api.MaxKey))
	r.Read(b)
	return string(b)
}

// chances are so many keys of any bytes.
func chances(r *rand.Rand, n int) []string {
	var out []string
	for range n {
		out = append(out, chance(r))
	}
	return out
}

// odd are keys of which bytes, not runes, must count, and the shortest and the longest.
func odd() []string {
	out := []string{"é", "e\u0301", "€", "\u0000", "\x00\x00", "\x80", "\xff", "\xff\xff", "\xc3", "\xa9", "\xed\xa0\x80", "\ufffd", text(1), text(2), text(63), text(64)}
	for c := range 256 {
		out = append(out, string([]byte{byte(c)}), string([]byte{'a', byte(c)}))
	}
	return out
}

// good are lists of keys that have a sieve.
func good() map[string][]string {
	out := map[string][]string{
		"nil":             nil,
		"none":            {},
		"one":             {"a"},
		"two":             {"a", "b"},
		"one twice":       {"a", "a"},
		"falling":         {"c", "b", "a"},
		"odd ones":        odd(),
		"the longest":     {text(64)},
		"the shortest":    {"\x00"},
		"one 1,024 times": slices.Repeat([]string{"a"}, 1024),
	}
	for _, n := range []int{7, 8, 9, 10, 100, 1023, 1024} {
		out[strconv.Itoa(n)] = numbered(n)
	}
	return out
}

// refused are lists of keys that have none, with what is told.
func refused() map[string]struct {
	keys []string
	want api.Errno
} {
	long := numbered(1024)
	return map[string]struct {
		keys []string
		want api.Errno
	}{
		"empty":                     {[]string{""}, api.ErrText},
		"one of 65 bytes":           {[]string{text(65)}, api.ErrText},
		"one of very many bytes":    {[]string{text(100000)}, api.ErrText},
		"22 runes of 66 bytes":      {[]string{strings.Repeat("€", 22)}, api.ErrText},
		"the first empty":           {[]string{"", "a", "b"}, api.ErrText},
		"one in the midst empty":    {[]string{"a", "", "b"}, api.ErrText},
		"the last empty":            {[]string{"a", "b", ""}, api.ErrText},
		"the first too long":        {[]string{text(65), "a"}, api.ErrText},
		"the last too long":         {[]string{"a", text(65)}, api.ErrText},
		"1,024, the last empty":     {append(slices.Clone(long[:1023]), ""), api.ErrText},
		"1,024, all empty":          {make([]string, 1024), api.ErrText},
		"1,025":                     {numbered(1025), api.ErrMany},
		"1,025, of one key":         {slices.Repeat([]string{"a"}, 1025), api.ErrMany},
		"1,025, all empty":          {make([]string, 1025), api.ErrMany},
		"1,025, the first too long": {append([]string{text(65)}, long...), api.ErrMany},
		"1,025, the last empty":     {append(slices.Clone(long), ""), api.ErrMany},
		"very many":                 {numbered(70000), api.ErrMany},
	}
}

// made is a sieve that must be.
func made(t *testing.T, keys []string) []byte {
	t.Helper()
	b, err := sieve.Make(keys)
	if err != api.OK {
		t.Fatalf("Make of %d keys: error %d", len(keys), err)
	}
	return b
}

// wantMay holds what May tells against what it should.
func wantMay(t *testing.T, b []byte, key string, want bool) {
	t.Helper()
	if is, err := sieve.May(b, key); is != want || err != api.OK {
		t.Errorf("May(%d bytes, %.9q): %v, error %d", len(b), key, is, err)
	}
}
