package manifest_test

import (
	"bytes"
	"encoding/binary"
	"fmt"
	"math/rand"
	"slices"
	"testing"

	"millhand/api"
	"millhand/manifest"
	"millhand/version"
)

func TestWriteExample(t *testing.T) { // P17.1
	v := ok[api.Version](t)(version.New("log"))
	b, e := manifest.Write(v)
	if want := []byte{0, 0, 0, 0, 1, 0, 3, 108, 111, 103}; e != api.OK || !bytes.Equal(b, want) {
		t.Errorf("%d, error %d, not %d", b, e, want)
	}
	v, want := hand()
	if b, e := manifest.Write(v); e != api.OK || !bytes.Equal(b, want) {
		t.Errorf("%d, error %d, not %d", b, e, want)
	}
	if b := plain(v); !bytes.Equal(b, want) {
		t.Errorf("the tests themselves tell %d, not %d", b, want)
	}
}

func TestWrite(t *testing.T) { // P17.1
	for name, v := range good() {
		if b, e := manifest.Write(v); e != api.OK || !bytes.Equal(b, plain(v)) {
			t.Errorf("%s: %d, error %d, not %d", name, b, e, plain(v))
		}
	}
	refused(func(name string, v api.Version, want api.Errno) {
		b, e := manifest.Write(v)
		wantAlone(t, "Write of "+name, e, want, b)
	})
}

// wantRead looks whether Read tells the version that the plain reading tells, or that there is none.
func wantRead(t *testing.T, name string, b []byte) bool {
	t.Helper()
	want, is := plainRead(b)
	v, e := manifest.Read(b)
	if !is {
		wantAlone(t, fmt.Sprintf("Read of %s, %d", name, b), e, api.ErrBad, v)
	} else if e != api.OK || !same(v, want) {
		t.Errorf("%s: %v, error %d, not %v", name, v, e, want)
	}
	return is
}

func TestRead(t *testing.T) { // P17.1, P17.5, W6
	for name, v := range good() {
		if !wantRead(t, name, plain(v)) {
			t.Errorf("%s: it may not be", name)
		}
		if got, e := manifest.Read(ok[[]byte](t)(manifest.Write(v))); e != api.OK || !same(got, v) || version.Check(got) != api.OK {
			t.Errorf("%s: there and back: %v, error %d", name, got, e)
		}
	}
	for seed := range int64(3000) {
		v := anyVersion(rand.New(rand.NewSource(seed)))
		b, e := manifest.Write(v)
		if e != api.OK || !bytes.Equal(b, plain(v)) {
			t.Fatalf("seed %d: error %d, or other bytes", seed, e)
		}
		if got, e := manifest.Read(b); e != api.OK || !same(got, v) {
			t.Fatalf("seed %d: %v, error %d, not %v", seed, got, e, v)
		}
	}
}

func TestReadOfNone(t *testing.T) { // P17.1
	for name, b := range map[string][]byte{"nil": nil, "none": {}, "a nought": {0}, "noughts": make([]byte, 8), "16,384 noughts": make([]byte, 16384), "16,384 of 255": bytes.Repeat([]byte{255}, 16384)} {
		v, e := manifest.Read(b)
		wantAlone(t, "Read of "+name, e, api.ErrBad, v)
	}
}

func TestReadCutAndLonger(t *testing.T) { // P17.1: just the bytes
	for name, v := range good() {
		b := plain(v)
		for i := range b {
			got, e := manifest.Read(b[:i])
			wantAlone(t, fmt.Sprintf("%s, its first %d bytes", name, i), e, api.ErrBad, got)
		}
		for _, more := range [][]byte{{0}, {1}, {255}, b, make([]byte, 16384-len(b))} {
			got, e := manifest.Read(slices.Concat(b, more))
			wantAlone(t, fmt.Sprintf("%s, with %d bytes behind", name, len(more)), e, api.ErrBad, got)
		}
		got, e := manifest.Read(slices.Concat([]byte{0}, b))
		wantAlone(t, name+", with a byte ahead", e, api.ErrBad, got)
	}
}

func TestReadOfTooMany(t *testing.T) { // P17.1: bytes are counted ahead of all else
	b := plain(of(row(2)))
	for _, n := range []int{16385, 16386, 1 << 20} {
		for _, l := range [][]byte{make([]byte, n), append(slices.Clone(b), make([]byte, n-len(b))...), bytes.Repeat([]byte{255}, n)} {
			v, e := manifest.Read(l)
			wantAlone(t, fmt.Sprintf("%d bytes", n), e, api.ErrText, v)
		}
	}
}

func TestReadOfChanged(t *testing.T) { // P17.1: each byte of some versions is each one that there is
	byHand, _ := hand()
	some := []api.Version{of(), byHand, but(of(tables(table("a", "b", "d"), table("b", "c", "f")), tables(table("c", "b", "b"), table("d", "c", "c"))), func(v *api.Version) { v.Next, v.Seq = 1<<39, 300 })}
	may := 0
	for _, v := range some {
		b := plain(v)
		for i, was := range b {
			for x := range 256 {
				b[i] = byte(x)
				if wantRead(t, "a changed byte", b) {
					may++
				}
			}
			b[i] = was
		}
	}
	if may < 2000 {
		t.Errorf("only %d of them are of versions that may be", may)
	}
}

func TestReadOfShortRows(t *testing.T) { // P17.1: all rows of up to nine bytes, of some bytes
	few := []byte{0, 1, 128, 255}
	var walk func(b []byte, left int) int
	walk = func(b []byte, left int) (may int) {
		if wantRead(t, "a row", b) {
			may++
		}
		for i := 0; i < len(few) && left > 0; i++ {
			may += walk(append(slices.Clip(b), few[i]), left-1)
		}
		return may
	}
	if may := walk([]byte{0, 0, 0}, 6) + walk([]byte{0, 0, 1, 1, 97, 1, 1, 1}, 5); may < 10 {
		t.Errorf("only %d rows are of versions that may be", may)
	}
}

func TestReadOfLongNumbers(t *testing.T) { // P17.1: numbers in as few bytes as can be, and not above any int
	v, _ := hand()
	numbers := 0
	plain(v, func(b []byte, n uint64) []byte {
		numbers++
		return binary.AppendUvarint(b, n)
	})
	behind := map[string]func(n uint64) uint64{
		"2^32 more":     func(n uint64) uint64 { return n + 1<<32 },
		"2^41 more":     func(n uint64) uint64 { return n + 1<<41 },
		"2^63 more":     func(n uint64) uint64 { return n + 1<<63 },
		"all bits":      func(n uint64) uint64 { return 1<<64 - 1 },
		"the least int": func(n uint64) uint64 { return 1 << 63 },
		"below 0":       func(n uint64) uint64 { return -n },
	}
	for i := range numbers {
		at := 0
		b := plain(v, func(b []byte, n uint64) []byte {
			b = binary.AppendUvarint(b, n)
			if at++; at == i+1 {
				b[len(b)-1] |= 128
				b = append(b, 0)
			}
			return b
		})
		got, e := manifest.Read(b)
		wantAlone(t, fmt.Sprintf("a byte more in number %d", i), e, api.ErrBad, got)
		for name, change := range behind {
			at = 0
			b := plain(v, func(b []byte, n uint64) []byte {
				if at++; at == i+1 && n > 0 {
					n = change(n)
				} else if at == i+1 {
					n = 1 << 63
				}
				return binary.AppendUvarint(b, n)
			})
			if wantRead(t, fmt.Sprintf("%s, number %d", name, i), b) != (name == "2^32 more" && i == numbers-3) {
				t.Errorf("%s, number %d: just Next may be so much more", name, i)
			}
		}
	}
}

func TestReadOfVersionsThatMayNotBe(t *testing.T) { // P17.1
	refused(func(name string, v api.Version, _ api.Errno) {
		b, want := plain(v), api.ErrBad
		if len(b) > api.MaxTable {
			want = api.ErrText
		}
		got, e := manifest.Read(b)
		wantAlone(t, "Read of "+name, e, want, got)
	})
	for i := range 5 { // 32 tables, and a count that tells of more than stand there
		b := plain(of(row(32)))
		b[0] = []byte{31, 33, 64, 127, 0}[i]
		got, e := manifest.Read(b)
		wantAlone(t, fmt.Sprintf("%d tables are told, 32 there", b[0]), e, api.ErrBad, got)
	}
}
