package files_test

import (
	"maps"
	"math"
	"slices"
	"strings"
	"testing"

	"millhand/api"
	"millhand/files"
)

const (
	first = api.First
	max   = api.MaxBlocks
	room  = 2048 // bytes of a directory
)

// of are the extents of pairs of numbers.
func of(l ...int) []api.Extent {
	var out []api.Extent
	for i := 0; i < len(l); i += 2 {
		out = append(out, api.Extent{At: l[i], Many: l[i+1]})
	}
	return out
}

// ones are so many extents of one block each, one behind the other.
func ones(at, times int) []api.Extent {
	var out []api.Extent
	for i := range times {
		out = append(out, api.Extent{At: at + i, Many: 1})
	}
	return out
}

// file is one with a name and the extents of pairs of numbers.
func file(name string, l ...int) api.File {
	return api.File{Name: name, Extents: of(l...)}
}

// dir is a directory of files as they stand.
func dir(l ...api.File) api.Dir {
	return api.Dir{Files: l}
}

// many is a directory of so many files of one block each, from First on.
func many(n int) api.Dir {
	var d api.Dir
	for i := range n {
		d.Files = append(d.Files, file(string([]byte{'f', byte('0' + i/10), byte('0' + i%10)}), first+i, 1))
	}
	return d
}

// sized is a directory of ten files a.. to j.. with so many bytes, which are made of the names: from 1951 to 2101.
func sized(n int) api.Dir {
	letters := n - (1 + 10*(1+1+3*api.MaxExtents)) // a file's numbers are its name's length, 64, and 64 pairs of two bytes and one
	var d api.Dir
	for i := range 10 {
		size := letters / (10 - i)
		letters -= size
		name := strings.Repeat(string(rune('a'+i)), size)
		d.Files = append(d.Files, api.File{Name: name, Extents: ones(128+api.MaxExtents*i, api.MaxExtents)})
	}
	return d
}

// odd are extents that may not be anywhere.
var odd = map[string]api.Extent{
	"noughts":                     {},
	"no blocks":                   {At: 50, Many: 0},
	"fewer than no blocks":        {At: 50, Many: -1},
	"below 0":                     {At: -1, Many: 1},
	"from below 0 on":             {At: -1, Many: 90},
	"the first block of a disk":   {At: 0, Many: 1},
	"a directory's block":         {At: 2, Many: 1},
	"the last one below First":    {At: first - 1, Many: 1},
	"from below First on":         {At: first - 1, Many: 2},
	"all blocks of a disk":        {At: 0, Many: max},
	"one beyond the greatest":     {At: max - 1, Many: 2},
	"behind the greatest":         {At: max, Many: 1},
	"all of files, and one more":  {At: first, Many: max - first + 1},
	"the greatest at":             {At: math.MaxInt, Many: 1},
	"the greatest many":           {At: first, Many: math.MaxInt},
	"the greatest twice":          {At: math.MaxInt, Many: math.MaxInt},
	"the least at":                {At: math.MinInt, Many: 1},
	"the least many":              {At: first, Many: math.MinInt},
	"the least at, and the most":  {At: math.MinInt, Many: math.MaxInt},
	"a sum that wraps to a block": {At: math.MaxInt - 5, Many: math.MinInt + 60},
	"2^32 and a block":            {At: 1<<32 + first, Many: 1},
	"2^32 and one of them":        {At: first, Many: 1<<32 + 1},
}

// oddNames are names that may not be.
var oddNames = []string{"", strings.Repeat("n", api.MaxName+1), strings.Repeat("n", 300), strings.Repeat("é", 9)}

// plainSmall are a number's small bytes as chapter 1 tells them, without the help of the packages under test.
func plainSmall(n int) []byte {
	if n < 128 {
		return []byte{byte(n)}
	}
	return append([]byte{byte(n%128 + 128)}, plainSmall(n/128)...)
}

// plainBytes are a directory's bytes as the chapter's words tell them.
func plainBytes(d api.Dir) []byte {
	b := plainSmall(len(d.Files))
	for _, f := range d.Files {
		b = append(append(b, plainSmall(len(f.Name))...), f.Name...)
		b = append(b, plainSmall(len(f.Extents))...)
		for _, x := range f.Extents {
			b = append(append(b, plainSmall(x.At)...), plainSmall(x.Many)...)
		}
	}
	return b
}

// plainMayBe tells whether a directory may be, as the chapter's words tell it.
func plainMayBe(d api.Dir, blocks int) bool {
	seen := map[int]int{}
	for i, f := range d.Files {
		if len(f.Name) < 1 || len(f.Name) > 16 || i > 0 && !(d.Files[i-1].Name < f.Name) {
			return false
		}
		if len(f.Extents) < 1 || len(f.Extents) > 64 {
			return false
		}
		for _, x := range f.Extents {
			if x.At < 34 || x.At > 4096 || x.Many < 1 || x.Many > 4096 || x.At+x.Many > blocks {
				return false
			}
			for n := x.At; n < x.At+x.Many; n++ {
				seen[n]++
			}
		}
	}
	for n := range maps.Values(seen) {
		if n > 1 {
			return false
		}
	}
	return len(d.Files) <= 40 && len(plainBytes(d)) <= 2048
}

// same compares directories without the help of the package under test.
func same(a, b api.Dir) bool {
	return slices.EqualFunc(a.Files, b.Files, func(f, g api.File) bool {
		return f.Name == g.Name && slices.Equal(f.Extents, g.Extents)
	})
}

// wantDir holds a directory and an error against what is wanted of them.
func wantDir(t *testing.T, name string, d api.Dir, e api.Errno, want api.Dir, err api.Errno) {
	t.Helper()
	if e != err || !same(d, want) {
		t.Errorf("%s: %v, error %d, not %v, error %d", name, d, e, want, err)
	}
}

// wantRefused tells whether nothing stands beside an error.
func wantRefused(t *testing.T, name string, d api.Dir, e, err api.Errno) {
	t.Helper()
	if e != err || d.Files != nil {
		t.Errorf("%s: %v, error %d, not error %d alone", name, d, e, err)
	}
}

// wantFind holds Find against what is wanted of it.
func wantFind(t *testing.T, d api.Dir, name string, want []api.Extent, err api.Errno) {
	t.Helper()
	f, e := files.Find(d, name)
	if e != err || !slices.Equal(f.Extents, want) || f.Name != name && err == api.OK || f.Name != "" && err != api.OK {
		t.Errorf("Find(.., %q): %v, error %d, not %v, error %d", name, f, e, want, err)
	}
}
