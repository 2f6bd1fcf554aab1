package files_test

import (
	"bytes"
	"math"
	"slices"
	"testing"

	"millhand/api"
	"millhand/files"
)

// good are directories that may be on a disk of MaxBlocks blocks.
func good() map[string]api.Dir {
	return map[string]api.Dir{
		"none":                    {},
		"one file":                dir(file("a", 34, 2)),
		"two files":               dir(file("a", 34, 2), file("b", 36, 1, 40, 2)),
		"numbers of two bytes":    dir(file("a", 127, 1, 128, 127, 255, 128, 383, 2000)),
		"all blocks":              dir(file("a", first, max-first)),
		"the last block":          dir(file("a", max-1, 1)),
		"names of all kinds":      dir(file("\x00", 40, 1), file("\x01\x00", 41, 1), file("1234567890123456", 42, 1), file("é", 43, 1), file("\xff", 44, 1)),
		"MaxFiles":                many(api.MaxFiles),
		"MaxExtents":              dir(api.File{Name: "a", Extents: ones(100, api.MaxExtents)}),
		"2,047 bytes":             sized(room - 1),
		"2,048 bytes":             sized(room),
		"extents falling":         dir(file("a", 60, 1, 50, 2, 34, 1), file("b", 49, 1)),
		"files between the other": dir(file("a", 40, 1, 42, 1), file("b", 41, 1, 43, 1)),
	}
}

func TestWrite(t *testing.T) { // P5.4
	for name, d := range good() {
		if b, e := files.Write(d, max); e != api.OK || !bytes.Equal(b, plainBytes(d)) {
			t.Errorf("%s: %v, error %d", name, b, e)
		}
	}
	for _, c := range []struct {
		d      api.Dir
		blocks int
		want   []byte
		err    api.Errno
	}{
		{api.Dir{}, 64, []byte{0}, api.OK},
		{dir(file("a", 34, 2)), 64, []byte{1, 1, 97, 1, 34, 2}, api.OK},
		{dir(file("a", 300, 128), file("bc", 40, 1)), max, []byte{2, 1, 97, 1, 172, 2, 128, 1, 2, 98, 99, 1, 40, 1}, api.OK},
		{dir(file("a", 34, 2)), 36, []byte{1, 1, 97, 1, 34, 2}, api.OK},
		{dir(file("a", 34, 2)), 35, nil, api.ErrBad},
		{dir(file("a", 34, 2)), first, nil, api.ErrArg},
		{dir(file("a", 34, 2)), max + 1, nil, api.ErrArg},
		{dir(file("b", 34, 2), file("a", 40, 1)), 64, nil, api.ErrBad},
		{dir(file("a")), 64, nil, api.ErrBad},
		{many(api.MaxFiles + 1), max, nil, api.ErrBad},
		{sized(room + 1), max, nil, api.ErrBad},
		{sized(room + 1), 0, nil, api.ErrArg},
	} {
		if b, e := files.Write(c.d, c.blocks); e != c.err || !bytes.Equal(b, c.want) {
			t.Errorf("Write(%v, %d): %v, error %d, not %v, error %d", c.d, c.blocks, b, e, c.want, c.err)
		}
	}
}

func TestRead(t *testing.T) { // P5.4, P5.6: Read of Write is the directory
	for name, d := range good() {
		got, e := files.Read(plainBytes(d), max)
		wantDir(t, name, got, e, d, api.OK)
		b, _ := files.Write(d, max)
		got, e = files.Read(b, max)
		if e != api.OK || !files.Same(got, d) {
			t.Errorf("%s: Read of Write: %v, error %d", name, got, e)
		}
	}
}

func TestReadBlocks(t *testing.T) { // P5.4: ErrArg ahead of all, and a directory that may be on so many
	for _, b := range [][]byte{nil, {0}, {9}, {1, 1, 97, 1, 34, 2}, make([]byte, room), make([]byte, room+1)} {
		for _, blocks := range []int{math.MinInt, -1, 0, first - 1, first, max + 1, math.MaxInt} {
			d, e := files.Read(b, blocks)
			wantRefused(t, "Read", d, e, api.ErrArg)
		}
	}
	for _, c := range []struct{ at, many int }{{34, 1}, {34, 2}, {63, 1}, {64, 64}, {127, 1}, {1000, 24}, {34, max - 34}} {
		d := dir(file("a", c.at, c.many))
		got, e := files.Read(plainBytes(d), c.at+c.many)
		wantDir(t, "Read of a file up to the end", got, e, d, api.OK)
		if c.at+c.many-1 > first {
			got, e = files.Read(plainBytes(d), c.at+c.many-1)
			wantRefused(t, "Read of a file up to one beyond", got, e, api.ErrBad)
		}
	}
}

func TestReadLengths(t *testing.T) { // P5.4: 2,048 bytes and one more
	for n, want := range map[int]api.Errno{room - 1: api.OK, room: api.OK, room + 1: api.ErrText, room + 40: api.ErrText} {
		d, e := files.Read(plainBytes(sized(n)), max)
		if want != api.OK {
			wantRefused(t, "too many bytes", d, e, want)
			continue
		}
		wantDir(t, "many bytes", d, e, sized(n), api.OK)
	}
	for _, n := range []int{room, room + 1, 1 << 20} {
		want := api.ErrText
		if n == room {
			want = api.ErrBad
		}
		for _, c := range []byte{0, 1, 255} {
			d, e := files.Read(bytes.Repeat([]byte{c}, n), max)
			wantRefused(t, "bytes that are no directory", d, e, want)
		}
	}
}

func TestReadBad(t *testing.T) { // P5.4: bytes that are no directory's
	big := []byte{255, 255, 255, 255, 255, 255, 255, 255, 255, 1}       // 2^64 - 1
	wraps := []byte{162, 128, 128, 128, 128, 128, 128, 128, 128, 1}     // 2^63 + 34
	thirty := []byte{162, 128, 128, 128, 16}                            // 2^32 + 34
	tooBig := []byte{255, 255, 255, 255, 255, 255, 255, 255, 255, 2}    // more than 64 bits
	forever := []byte{128, 128, 128, 128, 128, 128, 128, 128, 128, 128} // no end
	for name, b := range map[string][]byte{
		"no bytes":                            nil,
		"no bytes, not nil":                   {},
		"no files, and one byte behind":       {0, 0},
		"no files, and a file behind":         {0, 1, 97, 1, 34, 2},
		"one file, and one byte behind":       {1, 1, 97, 1, 34, 2, 0},
		"one file, and another behind":        {1, 1, 97, 1, 34, 2, 1, 98, 1, 40, 1},
		"two files, one of them there":        {2, 1, 97, 1, 34, 2},
		"no files in two bytes":               {128, 0},
		"one file in two bytes":               {129, 0, 1, 97, 1, 34, 2},
		"one file in three bytes":             {129, 128, 0, 1, 97, 1, 34, 2},
		"a name's length in two bytes":        {1, 129, 0, 97, 1, 34, 2},
		"how many extents in two bytes":       {1, 1, 97, 129, 0, 34, 2},
		"At in two bytes":                     {1, 1, 97, 1, 162, 0, 2},
		"Many in two bytes":                   {1, 1, 97, 1, 34, 130, 0},
		"Many in two bytes, cut":              {1, 1, 97, 1, 34, 130},
		"a name of no bytes":                  {1, 0, 1, 34, 2},
		"a name of 17 bytes":                  append([]byte{1, 17}, []byte("12345678901234567\x01\x22\x02")...),
		"a name longer than what is there":    {1, 6, 97, 1, 34, 2},
		"a name as long as what is there":     {1, 4, 97, 1, 34, 2},
		"a file of no extents":                {1, 1, 97, 0},
		"a file of no extents, then one more": {2, 1, 97, 0, 1, 98, 1, 34, 2},
		"an extent of no blocks":              {1, 1, 97, 1, 34, 0},
		"an extent below First":               {1, 1, 97, 1, 33, 2},
		"an extent up to one beyond":          {1, 1, 97, 1, 34, 31},
		"an extent beyond":                    {1, 1, 97, 1, 64, 1},
		"two extents that meet":               {1, 1, 97, 2, 34, 2, 35, 1},
		"two files that meet":                 {2, 1, 97, 1, 34, 2, 1, 98, 1, 35, 1},
		"two files that fall":                 {2, 1, 98, 1, 34, 2, 1, 97, 1, 36, 1},
		"two files of one name":               {2, 1, 97, 1, 34, 2, 1, 97, 1, 36, 1},
		"too great a number of files":         append(slices.Clone(big), 1, 97, 1, 34, 2),
		"too great a length of a name":        slices.Concat([]byte{1}, big, []byte{97, 1, 34, 2}),
		"too great a number of extents":       slices.Concat([]byte{1, 1, 97}, big, []byte{34, 2}),
		"too great an At":                     slices.Concat([]byte{1, 1, 97, 1}, big, []byte{2}),
		"too great a Many":                    slices.Concat([]byte{1, 1, 97, 1, 34}, big),
		"an At that wraps":                    slices.Concat([]byte{1, 1, 97, 1}, wraps, []byte{2}),
		"a Many that wraps":                   slices.Concat([]byte{1, 1, 97, 1, 34}, wraps),
		"an At of 2^32 more":                  slices.Concat([]byte{1, 1, 97, 1}, thirty, []byte{2}),
		"a Many of 2^32 more":                 slices.Concat([]byte{1, 1, 97, 1, 34}, thirty),
		"an At of more than 64 bits":          slices.Concat([]byte{1, 1, 97, 1}, tooBig, []byte{2}),
		"a Many that does not end":            slices.Concat([]byte{1, 1, 97, 1, 34}, forever),
		"numbers that don't end":              bytes.Repeat([]byte{255}, room),
		"many files that are not there":       {40},
		"more files than can be":              {255, 31},
		"MaxFiles and one more":               plainBytes(many(api.MaxFiles + 1)),
		"MaxExtents and one more":             plainBytes(dir(api.File{Name: "a", Extents: ones(first, 65)})),
		"many extents that are not there":     {1, 1, 97, 64, 34, 1},
		"a directory with noughts behind":     append(plainBytes(dir(file("a", 34, 2))), make([]byte, 122)...),
	} {
		d, e := files.Read(b, 64)
		wantRefused(t, name, d, e, api.ErrBad)
	}
	for _, d := range []api.Dir{many(api.MaxFiles + 1), dir(api.File{Name: "a", Extents: ones(first, 65)})} {
		got, e := files.Read(plainBytes(d), max)
		wantRefused(t, "one more than there may be", got, e, api.ErrBad)
	}
}

func TestReadCutShort(t *testing.T) { // P5.4: no beginning of a directory's bytes is one, nor what goes on behind the end
	for name, d := range good() {
		b := plainBytes(d)
		for n := range b {
			got, e := files.Read(b[:n], max)
			wantRefused(t, name+", cut short", got, e, api.ErrBad)
		}
		if len(b) == room {
			continue
		}
		for c := range 256 {
			got, e := files.Read(append(slices.Clone(b), byte(c)), max)
			wantRefused(t, name+", with one byte behind", got, e, api.ErrBad)
		}
	}
}

func TestReadChanged(t *testing.T) { // P5.4: with one byte changed, it is refused, or is the directory whose bytes these are
	for _, d := range []api.Dir{dir(file("a", 34, 2), file("b", 36, 1, 40, 2)), dir(file("ab", 127, 1, 128, 300))} {
		b := plainBytes(d)
		for i := range b {
			for c := range 256 {
				x := slices.Clone(b)
				x[i] = byte(c)
				wantReadBack(t, x, max)
			}
		}
	}
}

// wantReadBack tells whether bytes are refused, or those of what is read.
func wantReadBack(t *testing.T, b []byte, blocks int) bool {
	t.Helper()
	d, e := files.Read(b, blocks)
	switch {
	case e == api.OK && (!plainMayBe(d, blocks) || !bytes.Equal(plainBytes(d), b)):
		t.Fatalf("Read(%v): %v, whose bytes these are not, or that may not be", b, d)
	case e != api.OK && (e != api.ErrBad || d.Files != nil):
		t.Fatalf("Read(%v): %v, error %d", b, d, e)
	}
	return e == api.OK
}

func TestReadAllShort(t *testing.T) { // P5.4: all rows of up to seven bytes out of a few are read just where a directory has them
	alphabet := []byte{0, 1, 2, 34, 35, 129}
	known := map[string]bool{}
	for _, d := range small() {
		if plainMayBe(d, 37) {
			known[string(plainBytes(d))] = true
		}
	}
	found := 0
	for size := range 8 {
		places := make([]int, size)
		for more := true; more; more = next(places, len(alphabet)) {
			b := make([]byte, size)
			for i, p := range places {
				b[i] = alphabet[p]
			}
			is := wantReadBack(t, b, 37)
			if !is && known[string(b)] {
				t.Fatalf("Read(%v) is refused", b)
			}
			if is {
				found++
			}
		}
	}
	if found < 20 {
		t.Errorf("only %d were read", found)
	}
}

// next counts on, the last place first, and tells whether there was one more.
func next(places []int, base int) bool {
	for i := len(places) - 1; i >= 0; i-- {
		places[i]++
		if places[i] < base {
			return true
		}
		places[i] = 0
	}
	return false
}

// small are directories of up to two files of up to two extents around First, most of which may not be.
func small() []api.Dir {
	var l [][]api.Extent
	for _, at := range []int{33, 34, 35, 36} {
		for _, many := range []int{0, 1, 2, 3} {
			l = append(l, of(at, many))
			for _, b := range []int{34, 35} {
				l = append(l, of(at, many, b, 1))
			}
		}
	}
	out := []api.Dir{{}}
	for _, a := range []string{"\x01", "\x02", "\x22"} {
		for _, x := range l {
			out = append(out, dir(api.File{Name: a, Extents: x}))
			for _, b := range []string{"\x01", "\x01\x01", "\x02"} {
				for _, y := range l {
					out = append(out, dir(api.File{Name: a, Extents: x}, api.File{Name: b, Extents: y}))
				}
			}
		}
	}
	return out
}

func TestSmallDirectories(t *testing.T) { // P5.1, P5.4, P5.6: each is held against the chapter's words
	for _, blocks := range []int{35, 36, 37, 38, 64} {
		for _, d := range small() {
			want := api.ErrBad
			if plainMayBe(d, blocks) {
				want = api.OK
			}
			b, e := files.Write(d, blocks)
			got, f := files.Read(plainBytes(d), blocks)
			if files.Check(d, blocks) != want || e != want || f != want {
				t.Fatalf("%v on %d blocks: errors %d, %d, %d, not %d", d, blocks, files.Check(d, blocks), e, f, want)
			}
			if want == api.OK && (!same(got, d) || !bytes.Equal(b, plainBytes(d))) {
				t.Fatalf("%v on %d blocks: %v, %v", d, blocks, got, b)
			}
		}
	}
}
