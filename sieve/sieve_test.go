package sieve_test

import (
	"bytes"
	"math/bits"
	"math/rand"
	"testing"

	"millhand/api"
	"millhand/sieve"
)

func TestExamples(t *testing.T) { // the chapter's
	b, err := sieve.Make(nil)
	if !bytes.Equal(b, make([]byte, 8)) || err != api.OK {
		t.Errorf("Make(none): %v, error %d", b, err)
	}
	wantMay(t, b, "a", false)
	b = made(t, []string{"a", "b"})
	if len(b) != 8 {
		t.Errorf("Make(a, b): %d bytes", len(b))
	}
	wantMay(t, b, "a", true)
	wantMay(t, b, "b", true)
	if b, err := sieve.Make([]string{""}); len(b) != 0 || err != api.ErrText {
		t.Errorf("Make(empty): %v, error %d", b, err)
	}
	if is, err := sieve.May(make([]byte, 7), "a"); is || err != api.ErrBad {
		t.Errorf("May(7 bytes, a): %v, error %d", is, err)
	}
	if err := sieve.Check(make([]byte, 1025)); err != api.ErrBad {
		t.Errorf("Check(1,025 bytes): error %d", err)
	}
}

func TestMakeByHand(t *testing.T) { // P13.1: bytes that were worked out apart from this program, of upper halves that are odd and even
	for _, c := range []struct {
		keys []string
		want []byte
	}{
		{[]string{"a"}, []byte{0, 16, 0, 2, 64, 0, 8, 0}},
		{[]string{"b"}, []byte{0, 16, 0, 0, 32, 0, 4, 128}},
		{[]string{"a", "b"}, []byte{0, 16, 0, 2, 96, 0, 12, 128}},
		{[]string{"\x00"}, []byte{64, 0, 0, 128, 0, 16, 0, 2}},
		{[]string{"\xff"}, []byte{0, 1, 32, 0, 0, 64, 0, 8}},
		{[]string{"é"}, []byte{2, 129, 64, 0, 0, 0, 0, 0}},
		{[]string{"kkkkkkkkkkkkkkkkkkkkkkkkkkkkkkkkkkkkkkkkkkkkkkkkkkkkkkkkkkkkkkkk"}, []byte{0, 8, 0, 64, 32, 0, 0, 1}},
		{[]string{"abc", "abd"}, []byte{0, 12, 96, 0, 24, 0, 0, 48}},
		{[]string{"a", "a", "a", "a", "a", "a", "a", "a", "a"}, []byte{64, 0, 2, 16, 0, 0, 0, 0, 8}},
		{[]string{"a", "b", "c", "d", "e", "f", "g", "h", "i"}, []byte{222, 0, 75, 146, 167, 120, 144, 37, 8}},
	} {
		if b, err := sieve.Make(c.keys); !bytes.Equal(b, c.want) || err != api.OK {
			t.Errorf("Make(%q): %v, error %d, not %v", c.keys, b, err, c.want)
		}
	}
}

func TestMake(t *testing.T) { // P13.1
	for name, keys := range good() {
		b, err := sieve.Make(keys)
		if err != api.OK || !bytes.Equal(b, plain(keys, max(8, len(keys)))) {
			t.Errorf("%s: %v, error %d", name, b, err)
		}
	}
	r := rand.New(rand.NewSource(113))
	for n := range 1025 { // MaxTabled
		keys := chances(r, n)
		if b := made(t, keys); !bytes.Equal(b, plain(keys, max(8, n))) {
			t.Errorf("%d keys: %v", n, b)
		}
	}
}

func TestMakeOfOneKey(t *testing.T) { // P13.1: all lengths of a key, and bytes that are no text's; MaxKey
	for n := 1; n <= api.MaxKey; n++ {
		keys := []string{text(n)}
		if b := made(t, keys); !bytes.Equal(b, plain(keys, 8)) {
			t.Errorf("a key of %d bytes: %v", n, b)
		}
	}
	for _, key := range odd() {
		if b := made(t, []string{key}); !bytes.Equal(b, plain([]string{key}, 8)) {
			t.Errorf("%q: %v", key, b)
		}
	}
}

func TestMakeRefuses(t *testing.T) { // P13.1: MaxKey, MaxTabled, and which of both is told
	for name, c := range refused() {
		if b, err := sieve.Make(c.keys); len(b) != 0 || err != c.want {
			t.Errorf("%s: %d bytes, error %d, not %d", name, len(b), err, c.want)
		}
	}
}

func TestCheck(t *testing.T) { // P13.1: how many bytes there are counts, and nothing else
	if err := sieve.Check(nil); err != api.ErrBad {
		t.Errorf("nil: error %d", err)
	}
	r := rand.New(rand.NewSource(213))
	sizes := []int{4096, 8192, 16384, 65536, 65544, 1 << 20}
	for n := range 1100 {
		sizes = append(sizes, n)
	}
	for _, n := range sizes {
		want := api.ErrBad
		if n >= 8 && n <= 1024 {
			want = api.OK
		}
		chosen := make([]byte, n)
		r.Read(chosen)
		for _, b := range [][]byte{make([]byte, n), bytes.Repeat([]byte{255}, n), chosen} {
			if err := sieve.Check(b); err != want {
				t.Errorf("%d bytes: error %d, not %d", n, err, want)
			}
		}
	}
	for name, keys := range good() {
		if err := sieve.Check(made(t, keys)); err != api.OK {
			t.Errorf("%s: error %d", name, err)
		}
	}
}

func TestMayRefuses(t *testing.T) { // P13.2: errors, and which of both is told
	for _, size := range []int{0, 1, 4, 7, 8, 9, 16, 1023, 1024, 1025, 1026, 2048, 65536, 65544} {
		for _, n := range []int{0, 1, 2, 63, 64, 65, 66, 128, 257, 65536, 65537} {
			want := api.OK
			if n < 1 || n > 64 {
				want = api.ErrText
			}
			if size < 8 || size > 1024 {
				want = api.ErrBad
			}
			if is, err := sieve.May(bytes.Repeat([]byte{255}, size), text(n)); err != want || is != (want == api.OK) {
				t.Errorf("%d bytes all set, a key of %d: %v, error %d, not %d", size, n, is, err, want)
			}
			if is, err := sieve.May(make([]byte, size), text(n)); err != want || is {
				t.Errorf("%d noughts, a key of %d: %v, error %d, not %d", size, n, is, err, want)
			}
		}
	}
	if is, err := sieve.May(nil, "a"); is || err != api.ErrBad {
		t.Errorf("nil: %v, error %d", is, err)
	}
}

func TestMayBitByBit(t *testing.T) { // P13.2: with its bits alone a key may be there, with one of them missing it may not, whatever else is set
	r := rand.New(rand.NewSource(313))
	keys := append(chances(r, 200), odd()...)
	for _, size := range []int{8, 9, 10, 11, 12, 13, 15, 16, 24, 33, 100, 511, 512, 1000, 1023, 1024} {
		for _, key := range keys {
			b := plain([]string{key}, size)
			wantMay(t, b, key, true)
			for i := range b {
				b[i] ^= 255
			}
			wantMay(t, b, key, false)
			for _, n := range plainBits(key, size) {
				full := bytes.Repeat([]byte{255}, size)
				full[n/8] ^= 1 << (n % 8)
				wantMay(t, full, key, false)
				alone := plain([]string{key}, size)
				alone[n/8] ^= 1 << (n % 8)
				wantMay(t, alone, key, false)
			}
		}
	}
}

func TestMayOfAnyBytes(t *testing.T) { // P13.2: also of bytes that Make never made
	r := rand.New(rand.NewSource(413))
	through := 0
	for range 20000 {
		b := make([]byte, 8+r.Intn(1017))
		r.Read(b)
		for i := range b { // about three of four bits set
			b[i] |= byte(r.Intn(256))
		}
		key := chance(r)
		wantMay(t, b, key, plainMay(b, key))
		if plainMay(b, key) {
			through++
		}
	}
	if through < 4000 || through > 10000 {
		t.Errorf("%d of 20000 were let through: both answers should be tried", through)
	}
}

func TestFourBits(t *testing.T) { // P13.1: one key's bits are four, however many times it comes
	r := rand.New(rand.NewSource(513))
	for n := 1; n <= api.MaxTabled; n++ {
		key := chance(r)
		keys := make([]string, n)
		for i := range keys {
			keys[i] = key
		}
		set := 0
		for _, x := range made(t, keys) {
			set += bits.OnesCount8(x)
		}
		if set != 4 {
			t.Errorf("%q %d times: %d bits", key, n, set)
		}
	}
}
