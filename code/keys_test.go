package code_test

import (
	"cmp"
	"slices"
	"strings"
	"testing"
	"unsafe"

	"millhand/api"
	"millhand/code"
)

func num(n uint64) api.Part { return api.Part{N: n} }
func txt(s string) api.Part { return api.Part{Text: true, S: s} }

// many is so many parts that are the same.
func many(p api.Part, n int) []api.Part { return slices.Repeat([]api.Part{p}, n) }

// words are all texts of at most n of these bytes.
func words(letters string, n int) []string {
	l := []string{""}
	for from := 0; n > 0; n-- {
		to := len(l)
		for _, s := range l[from:to] {
			for i := range len(letters) {
				l = append(l, s+letters[i:i+1])
			}
		}
		from = to
	}
	return l
}

// lists are all lists of at most n of some parts, without the empty one.
func lists(parts []api.Part, n int) [][]api.Part {
	l := [][]api.Part{nil}
	for from := 0; n > 0; n-- {
		to := len(l)
		for _, ahead := range l[from:to] {
			for _, p := range parts {
				l = append(l, append(slices.Clone(ahead), p))
			}
		}
		from = to
	}
	return l[1:]
}

func TestKeyIsItsBytes(t *testing.T) { // P1.2
	for _, c := range []struct {
		l    []api.Part
		want string
	}{
		{[]api.Part{num(0)}, "\x01\x00\x00\x00\x00\x00\x00\x00\x00"},
		{[]api.Part{num(258)}, "\x01\x00\x00\x00\x00\x00\x00\x01\x02"},
		{[]api.Part{num(0x0123456789abcdef)}, "\x01\x01\x23\x45\x67\x89\xab\xcd\xef"},
		{[]api.Part{num(1<<64 - 1)}, "\x01\xff\xff\xff\xff\xff\xff\xff\xff"},
		{[]api.Part{txt("")}, "\x02\x00\x00"},
		{[]api.Part{txt("a"), txt("")}, "\x02a\x00\x00\x02\x00\x00"},
		{[]api.Part{txt("\x00")}, "\x02\x00\xff\x00\x00"},
		{[]api.Part{txt("\xff")}, "\x02\xff\x00\x00"},
		{[]api.Part{txt("\x00\xff\x00\x00b")}, "\x02\x00\xff\xff\x00\xff\x00\xffb\x00\x00"},
		{[]api.Part{txt("a"), num(1)}, "\x02a\x00\x00\x01\x00\x00\x00\x00\x00\x00\x00\x01"},
		{[]api.Part{num(2), txt("\x01")}, "\x01\x00\x00\x00\x00\x00\x00\x00\x02\x02\x01\x00\x00"},
		{many(txt(""), 8), strings.Repeat("\x02\x00\x00", 8)},
	} {
		if k, e := code.Key(c.l); k != c.want || e != api.OK {
			t.Errorf("Key(%#v): %q %d, not %q", c.l, k, e, c.want)
		}
		if l, e := code.Parts(c.want); !slices.Equal(l, c.l) || e != api.OK {
			t.Errorf("Parts(%q): %#v %d, not %#v", c.want, l, e, c.l)
		}
	}
}

func TestKeyAtItsEdges(t *testing.T) { // P1.2
	long := strings.Repeat("x", 1<<20)
	for _, c := range []struct {
		l    []api.Part
		size int
		e    api.Errno
	}{
		{nil, 0, api.ErrMany},
		{[]api.Part{}, 0, api.ErrMany},
		{many(txt(""), 1), 3, api.OK},
		{many(txt(""), api.MaxParts), 24, api.OK},
		{many(txt(""), api.MaxParts+1), 0, api.ErrMany},
		{many(num(0), 7), 63, api.OK},
		{many(num(0), 8), 0, api.ErrText},
		{[]api.Part{txt(strings.Repeat("x", 61))}, 64, api.OK},
		{[]api.Part{txt(strings.Repeat("x", 62))}, 0, api.ErrText},
		{[]api.Part{txt(strings.Repeat("x", 64))}, 0, api.ErrText},
		{[]api.Part{txt(strings.Repeat("x", 65))}, 0, api.ErrText},
		{[]api.Part{txt(long)}, 0, api.ErrText},
		{[]api.Part{txt("a"), txt(long), num(1)}, 0, api.ErrText},
		{[]api.Part{txt(strings.Repeat("\x00", 30))}, 63, api.OK},
		{[]api.Part{txt(strings.Repeat("\x00", 30) + "x")}, 64, api.OK},
		{[]api.Part{txt(strings.Repeat("\x00", 31))}, 0, api.ErrText},
		{[]api.Part{txt(strings.Repeat("\xff", 61))}, 64, api.OK},
		{[]api.Part{num(1), txt(strings.Repeat("x", 52))}, 64, api.OK},
		{[]api.Part{num(1), txt(strings.Repeat("x", 53))}, 0, api.ErrText},
		{append(many(txt(""), 7), txt(strings.Repeat("x", 40))), 64, api.OK},
		{append(many(txt(""), 7), txt(strings.Repeat("x", 41))), 0, api.ErrText},
	} {
		if k, e := code.Key(c.l); len(k) != c.size || e != c.e {
			t.Errorf("Key(%d parts): %q %d, not %d bytes and %d", len(c.l), k, e, c.size, c.e)
		}
	}
}

func TestKeyRefusesPartsThatMayNotBe(t *testing.T) { // P1.2
	for _, p := range []api.Part{
		{Text: true, N: 1},
		{Text: true, N: 1, S: "a"},
		{Text: true, N: 1 << 63},
		{S: "a"},
		{N: 1, S: "a"},
		{S: "\x00"},
	} {
		for _, l := range [][]api.Part{
			{p},
			{p, num(1)},
			{num(1), p},
			{txt("a"), txt("b"), p},
			append(many(num(0), 7), p), // ahead of ErrText
			{txt(strings.Repeat("x", 1000)), p},
			{p, txt(strings.Repeat("x", 1000))},
		} {
			if k, e := code.Key(l); k != "" || e != api.ErrBad {
				t.Errorf("Key(%#v): %q %d", l, k, e)
			}
		}
		if k, e := code.Key(many(p, api.MaxParts+1)); k != "" || e != api.ErrMany {
			t.Errorf("Key(%#v, too often): %q %d", p, k, e)
		}
	}
}

func TestPartsRefuses(t *testing.T) { // P1.2
	one, e := code.Key([]api.Part{num(1), txt("a\x00b"), num(2)})
	if e != api.OK {
		t.Fatal(e)
	}
	wholes := []int{9, 9 + 7, 9 + 7 + 9}
	for n := 1; n <= len(one); n++ {
		l, e := code.Parts(one[:n])
		whole := slices.Index(wholes, n)
		if whole < 0 && (len(l) != 0 || e != api.ErrBad) || whole >= 0 && (len(l) != whole+1 || e != api.OK) {
			t.Errorf("Parts(the first %d of %q): %#v %d", n, one, l, e)
		}
	}
	for _, c := range []struct {
		s string
		e api.Errno
	}{
		{"", api.ErrText},
		{strings.Repeat("\x02\x00\x00", 21) + "\x00\x00", api.ErrText},
		{"\x02" + strings.Repeat("x", 62) + "\x00\x00", api.ErrText},
		{strings.Repeat("x", 1<<20), api.ErrText},
		{"\x02" + strings.Repeat("x", 62) + "\x00", api.ErrBad},
		{"\x00", api.ErrBad},
		{"\x01", api.ErrBad},
		{"\x01abcdefg", api.ErrBad},
		{"\x01abcdefghi", api.ErrBad},
		{"\x02", api.ErrBad},
		{"\x02\x00", api.ErrBad},
		{"\x02a\x00", api.ErrBad},
		{"\x02a\x00\xff", api.ErrBad},
		{"\x02a\x00\xff\x00", api.ErrBad},
		{"\x02a\x00\x01", api.ErrBad},
		{"\x02a\x00\xfe\x00\x00", api.ErrBad},
		{"\x02a\x00\x00\x00", api.ErrBad},
		{"\x02a\x00\x00\xff", api.ErrBad},
		{"\x03", api.ErrBad},
		{"\x03a\x00\x00", api.ErrBad},
		{"\xff", api.ErrBad},
		{strings.Repeat("\x02\x00\x00", 9), api.ErrBad},
		{strings.Repeat("\x02\x00\x00", 21), api.ErrBad},
	} {
		if l, e := code.Parts(c.s); len(l) != 0 || e != c.e {
			t.Errorf("Parts(%q): %#v %d, not %d", c.s, l, e, c.e)
		}
	}
}

func TestPartsAtItsEdges(t *testing.T) { // P1.2
	for _, l := range [][]api.Part{
		many(txt(""), api.MaxParts),
		{txt(strings.Repeat("x", 61))},
		{txt(strings.Repeat("\x00", 30) + "x")},
		{txt(strings.Repeat("\xff", 61))},
		many(num(1<<64-1), 7),
		append(many(txt(""), 7), txt(strings.Repeat("x", 40))),
	} {
		k, _ := code.Key(l)
		if m, e := code.Parts(k); !slices.Equal(m, l) || e != api.OK {
			t.Errorf("Parts(Key(%#v)): %#v %d", l, m, e)
		}
	}
}

// inOrder is the chapter's order of lists, told of the parts and not of their bytes.
func inOrder(a, b []api.Part) int {
	return slices.CompareFunc(a, b, func(p, q api.Part) int {
		kind := func(p api.Part) int {
			if p.Text {
				return 1
			}
			return 0
		}
		return cmp.Or(cmp.Compare(kind(p), kind(q)), cmp.Compare(p.N, q.N), strings.Compare(p.S, q.S))
	})
}

func TestKeysAreReadBackAndStandInOrder(t *testing.T) { // P1.5, W6
	var parts []api.Part
	for _, n := range []uint64{0, 1, 255, 256, 1 << 32, 1<<63 - 1, 1 << 63, 1<<64 - 1} {
		parts = append(parts, num(n))
	}
	for _, s := range words("\x00\x01\x02a\xfe\xff", 2) {
		parts = append(parts, txt(s))
	}
	all := append(lists(parts, 2), lists([]api.Part{num(0), num(1), txt(""), txt("\x00"), txt("a")}, 4)...)
	slices.SortFunc(all, inOrder)
	var last string
	for i, l := range all {
		k, e := code.Key(l)
		if e != api.OK {
			t.Fatalf("Key(%#v): %d", l, e)
		}
		if m, e := code.Parts(k); !slices.Equal(m, l) || e != api.OK {
			t.Fatalf("Parts(Key(%#v)): %#v %d", l, m, e)
		}
		if i > 0 && strings.Compare(last, k) != inOrder(all[i-1], l) {
			t.Fatalf("Key(%#v) is %q, Key(%#v) is %q", all[i-1], last, l, k)
		}
		last = k
	}
}

func TestEachKeyHasOneForm(t *testing.T) { // P1.5
	found := 0
	for _, s := range words("\x00\x01\x02a\xff", 7) {
		l, e := code.Parts(s)
		if e != api.OK {
			continue
		}
		found++
		if k, e := code.Key(l); k != s || e != api.OK {
			t.Fatalf("Key(Parts(%q)): %q %d", s, k, e)
		}
	}
	// Of 3 to 7 bytes: one text of as many letters as there is room for (a letter is one of four bytes, or a byte 0 with 255 behind it), or two of at most one byte in all.
	texts := [5]int{1, 4, 4*4 + 1, 4*(4*4+1) + 4, 0}
	texts[4] = 4*texts[3] + texts[2]
	want := texts[0] + texts[1] + texts[2] + texts[3] + texts[4] + 1 + 2*texts[1]
	if found != want {
		t.Errorf("%d keys, not %d", found, want)
	}
}

func TestAboveIsItsText(t *testing.T) { // P1.3
	for _, c := range []struct {
		s, want string
		is      bool
	}{
		{"", "", false},
		{"\xff", "", false},
		{strings.Repeat("\xff", 100), "", false},
		{"ab", "ac", true},
		{"\x00", "\x01", true},
		{"\xfe", "\xff", true},
		{"a\xff", "b", true},
		{"a\xff\xff", "b", true},
		{"\xffa", "\xffb", true},
		{"\xff\xfe\xff", "\xff\xff", true},
		{"a\xffb", "a\xffc", true},
		{"a\x00\xff", "a\x01", true},
		{"a\x80\xff", "a\x81", true},
		{"\xfe\xff", "\xff", true},
		{"\u00e4", "\xc3\xa5", true},
		{"a\x7f", "a\x80", true},
	} {
		if above, is := code.Above(c.s); above != c.want || is != c.is {
			t.Errorf("Above(%q): %q %v, not %q %v", c.s, above, is, c.want, c.is)
		}
	}
}

func TestAboveBoundsWhatBeginsWithIt(t *testing.T) { // P1.3, P1.5
	all := words("\x00a\x80\xfe\xff", 4)
	for _, s := range words("\x00a\x80\xfe\xff", 3) {
		above, is := code.Above(s)
		for _, text := range all {
			between := text >= s && (!is || text < above)
			if strings.HasPrefix(text, s) != between {
				t.Fatalf("Above(%q): %q %v; %q", s, above, is, text)
			}
		}
	}
}

func TestPartsHandedInAreOnlyRead(t *testing.T) { // P1.4
	room := []api.Part{num(258), txt("a\x00"), {Text: true, N: 7, S: "room"}, num(9)}
	want := slices.Clone(room)
	for n := range 4 {
		code.Key(room[:n])
		if !slices.Equal(room, want) {
			t.Fatalf("Key of %d parts has changed them: %#v", n, room)
		}
	}
}

func TestPartsAnsweredAreNew(t *testing.T) { // P1.4
	l := []api.Part{num(258), txt("abc")}
	k, _ := code.Key(l)
	again, _ := code.Key(l)
	l[0], l[1] = num(1), txt("")
	if k != again {
		t.Errorf("changed with what was handed in: %q", k)
	}
	first, _ := code.Parts(k)
	second, _ := code.Parts(k)
	clear(first)
	if !slices.Equal(second, []api.Part{num(258), txt("abc")}) {
		t.Errorf("changed with another answer: %#v", second)
	}
	if shares(k, second[1].S) {
		t.Error("a part's text is a piece of the key")
	}
	if above, _ := code.Above(k); shares(k, above) {
		t.Error("what is above a key is a piece of it")
	}
}

// shares tells whether b begins within the memory of a.
func shares(a, b string) bool {
	from := uintptr(unsafe.Pointer(unsafe.StringData(a)))
	at := uintptr(unsafe.Pointer(unsafe.StringData(b)))
	return at >= from && at < from+uintptr(len(a))
}

// R2: the same arguments, the same answers; nothing is kept between calls.
func TestAnswersHangOnArgumentsAlone(t *testing.T) {
	key := func() string {
		k, _ := code.Key([]api.Part{txt("a"), num(5)})
		return k
	}
	before := key()
	code.Key(many(num(9), 8))
	code.Parts("\x03")
	code.Above("\xff")
	if after := key(); after != before {
		t.Errorf("%q, then %q", before, after)
	}
}
