package code_test

import (
	"bytes"
	"math"
	"strings"
	"testing"

	"millhand/api"
	"millhand/code"
)

// spare is b with room behind it that is filled, so that a write into it is seen.
func spare(b ...byte) []byte {
	room := append(bytes.Clone(b), 0xA5, 0xA5, 0xA5, 0xA5)
	return room[:len(b)]
}

// untouched tells whether what spare made is still b, with its room.
func untouched(made []byte, b ...byte) bool {
	return bytes.Equal(made[:len(made)+4], append(bytes.Clone(b), 0xA5, 0xA5, 0xA5, 0xA5))
}

// numbers are all powers of two, and what stands beside them.
func numbers() []uint64 {
	l := []uint64{0, 300, 16383, 16384, math.MaxUint64}
	for i := range 64 {
		l = append(l, 1<<i-1, 1<<i, 1<<i+1)
	}
	return l
}

func TestSmallIsItsBytes(t *testing.T) { // P1.1
	for _, c := range []struct {
		n    uint64
		want []byte
	}{
		{0, []byte{0}},
		{1, []byte{1}},
		{127, []byte{127}},
		{128, []byte{128, 1}},
		{255, []byte{255, 1}},
		{300, []byte{172, 2}},
		{16383, []byte{255, 127}},
		{16384, []byte{128, 128, 1}},
		{1 << 63, []byte{128, 128, 128, 128, 128, 128, 128, 128, 128, 1}},
		{math.MaxUint64, []byte{255, 255, 255, 255, 255, 255, 255, 255, 255, 1}},
	} {
		if b := code.Small(c.n); !bytes.Equal(b, c.want) {
			t.Errorf("Small(%d): %v, not %v", c.n, b, c.want)
		}
	}
}

func TestSmallIsReadBack(t *testing.T) { // P1.1, P1.5
	for _, n := range numbers() {
		b := code.Small(n)
		for _, behind := range [][]byte{nil, {0}, {9}, {128}, {255, 255}} {
			m, size, e := code.Read(append(bytes.Clone(b), behind...))
			if m != n || size != len(b) || e != api.OK {
				t.Errorf("Read(Small(%d), then %v): %d %d %d", n, behind, m, size, e)
			}
		}
	}
}

func TestReadRefuses(t *testing.T) { // P1.1
	full := bytes.Repeat([]byte{255}, 9)
	for _, b := range [][]byte{
		nil,
		{},
		{128},
		{255, 255},
		{128, 0},
		{129, 0},
		{255, 128, 0},
		{128, 0, 1},
		append(bytes.Repeat([]byte{128}, 9), 0),
		full,
		append(bytes.Clone(full), 2),
		append(bytes.Clone(full), 127),
		append(bytes.Clone(full), 128),
		append(bytes.Clone(full), 129, 0),
		append(bytes.Clone(full), 129, 1),
		append(bytes.Clone(full), 255, 1),
		bytes.Repeat([]byte{128}, 1000),
		append(bytes.Repeat([]byte{128}, 10), 1),
	} {
		if n, size, e := code.Read(b); n != 0 || size != 0 || e != api.ErrBad {
			t.Errorf("Read(%v): %d %d %d", b, n, size, e)
		}
	}
}

func TestReadTakesTheLongestNumbers(t *testing.T) { // P1.1
	for _, c := range []struct {
		b    []byte
		n    uint64
		size int
	}{
		{[]byte{172, 2, 9}, 300, 2},
		{[]byte{0, 128}, 0, 1},
		{append(bytes.Repeat([]byte{128}, 8), 1), 1 << 56, 9},
		{append(bytes.Repeat([]byte{255}, 8), 127), 1<<63 - 1, 9},
		{append(bytes.Repeat([]byte{128}, 9), 1), 1 << 63, 10},
		{append(bytes.Repeat([]byte{255}, 9), 1, 1), math.MaxUint64, 10},
	} {
		if n, size, e := code.Read(c.b); n != c.n || size != c.size || e != api.OK {
			t.Errorf("Read(%v): %d %d %d", c.b, n, size, e)
		}
	}
}

// What is read is written the same: no number has two forms. All three-byte beginnings are gone through.
func TestReadTakesOneFormAlone(t *testing.T) { // P1.1, P1.5
	for i := range 1 << 24 {
		b := []byte{byte(i), byte(i >> 8), byte(i >> 16)}
		n, size, e := code.Read(b)
		cutOff := b[0] >= 128 && b[1] >= 128 && b[2] >= 128
		padded := b[0] >= 128 && b[1] == 0 || b[0] >= 128 && b[1] >= 128 && b[2] == 0
		if bad := cutOff || padded; bad != (e == api.ErrBad) {
			t.Fatalf("Read(%v): %d", b, e)
		}
		if e == api.OK && !bytes.Equal(code.Small(n), b[:size]) {
			t.Fatalf("Read(%v): %d %d, written %v", b, n, size, code.Small(n))
		}
	}
}

func texts() []string {
	return []string{
		"", "a", "ab", "\x00", "\xff", "\x00\xff\x00", "\xff\xff", "\u00e4\u20ac",
		strings.Repeat("x", 127), strings.Repeat("x", 128), strings.Repeat("\x00", 300),
		strings.Repeat("\xff", 16383), strings.Repeat("y", 16384),
	}
}

func TestTextIsItsBytes(t *testing.T) { // P1.1
	for _, c := range []struct {
		s    string
		want []byte
	}{
		{"", []byte{0}},
		{"ab", []byte{2, 97, 98}},
		{"\x00\xff", []byte{2, 0, 255}},
		{strings.Repeat("x", 127), append([]byte{127}, strings.Repeat("x", 127)...)},
		{strings.Repeat("x", 128), append([]byte{128, 1}, strings.Repeat("x", 128)...)},
	} {
		if b := code.Text(c.s); !bytes.Equal(b, c.want) {
			t.Errorf("Text(%q): %v, not %v", c.s, b, c.want)
		}
	}
}

func TestTextIsCutOffAgain(t *testing.T) { // P1.1, P1.5
	for _, s := range texts() {
		for _, behind := range [][]byte{nil, {0}, {7}, {128, 0}, code.Text("more")} {
			text, rest, e := code.Cut(append(code.Text(s), behind...))
			if text != s || !bytes.Equal(rest, behind) || e != api.OK {
				t.Errorf("Cut(Text(%q), then %v): %q %v %d", s, behind, text, rest, e)
			}
		}
	}
}

func TestCutRefuses(t *testing.T) { // P1.1
	for _, b := range [][]byte{
		nil,
		{},
		{1},
		{128},
		{128, 0},
		{130, 0, 'a', 'b'},
		{3, 'a', 'b'},
		append(code.Small(128), make([]byte, 127)...),
		append(code.Small(1<<31), 'a'),
		append(code.Small(1<<32), 'a'),
		append(code.Small(1<<63-1), 'a'),
		append(code.Small(1<<63), 'a'),
		append(code.Small(math.MaxUint64), 'a'),
		append(bytes.Repeat([]byte{255}, 9), 2, 'a'),
	} {
		if text, rest, e := code.Cut(b); text != "" || len(rest) != 0 || e != api.ErrBad {
			t.Errorf("Cut(%v): %q %v %d", b, text, rest, e)
		}
	}
	for _, s := range texts() {
		b := code.Text(s)
		for n := range min(len(b), 200) {
			if text, rest, e := code.Cut(b[:n]); text != "" || len(rest) != 0 || e != api.ErrBad {
				t.Errorf("Cut(the first %d of Text(%q)): %q %v %d", n, s, text, rest, e)
			}
		}
	}
}

func TestBytesHandedInAreOnlyRead(t *testing.T) { // P1.4
	for _, b := range [][]byte{{172, 2, 9}, {2, 'a', 'b', 7}, {128, 0}, {3, 'a'}, {0}, {}} {
		made := spare(b...)
		code.Read(made)
		_, rest, _ := code.Cut(made)
		_ = append(rest, 1, 2, 3)
		if !untouched(made, b...) {
			t.Errorf("%v has become %v", b, made[:len(made)+4])
		}
	}
}

func TestBytesAnsweredAreNew(t *testing.T) { // P1.4
	b := []byte{2, 'a', 'b', 7, 8}
	text, rest, _ := code.Cut(b)
	_, again, _ := code.Cut(b)
	clear(b)
	if text != "ab" || !bytes.Equal(rest, []byte{7, 8}) {
		t.Errorf("changed with what was handed in: %q %v", text, rest)
	}
	clear(rest)
	if !bytes.Equal(again, []byte{7, 8}) {
		t.Errorf("changed with another answer: %v", again)
	}
	for _, n := range []uint64{0, 127, 300, math.MaxUint64} {
		first := code.Small(n)
		want := bytes.Clone(first)
		first[0]++
		if second := code.Small(n); !bytes.Equal(second, want) {
			t.Errorf("Small(%d) again: %v", n, second)
		}
	}
	for _, s := range []string{"", "ab"} {
		first := code.Text(s)
		want := bytes.Clone(first)
		first[0]++
		if second := code.Text(s); !bytes.Equal(second, want) {
			t.Errorf("Text(%q) again: %v", s, second)
		}
	}
}
