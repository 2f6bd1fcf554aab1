package files_test

import (
	"math"
	"strings"
	"testing"

	"millhand/api"
	"millhand/files"
)

func TestCheckBlocks(t *testing.T) { // P5.1: blocks at First, one more, MaxBlocks and one more, whatever the directory
	for _, c := range []struct {
		blocks    int
		none, bad api.Errno
	}{
		{first + 1, api.OK, api.ErrBad}, {first + 2, api.OK, api.ErrBad}, {100, api.OK, api.ErrBad},
		{max - 1, api.OK, api.ErrBad}, {max, api.OK, api.ErrBad},
		{first, api.ErrArg, api.ErrArg}, {first - 1, api.ErrArg, api.ErrArg}, {1, api.ErrArg, api.ErrArg},
		{0, api.ErrArg, api.ErrArg}, {-1, api.ErrArg, api.ErrArg}, {-100, api.ErrArg, api.ErrArg},
		{max + 1, api.ErrArg, api.ErrArg}, {1<<32 + 100, api.ErrArg, api.ErrArg},
		{math.MaxInt, api.ErrArg, api.ErrArg}, {math.MinInt, api.ErrArg, api.ErrArg},
	} {
		if e := files.Check(api.Dir{}, c.blocks); e != c.none {
			t.Errorf("Check of no files on %d blocks: error %d, not %d", c.blocks, e, c.none)
		}
		if e := files.Check(dir(file("", 40, 1)), c.blocks); e != c.bad {
			t.Errorf("Check of a bad directory on %d blocks: error %d, not %d", c.blocks, e, c.bad)
		}
	}
}

func TestCheckNames(t *testing.T) { // P5.1: names from 1 to MaxName bytes that rise by their bytes
	long := strings.Repeat("n", api.MaxName)
	for name, c := range map[string]struct {
		l    []string
		want api.Errno
	}{
		"none":                           {nil, api.OK},
		"of one byte":                    {[]string{"a"}, api.OK},
		"of MaxName bytes":               {[]string{long}, api.OK},
		"of one more":                    {[]string{long + "n"}, api.ErrBad},
		"of many more":                   {[]string{strings.Repeat(long, 99)}, api.ErrBad},
		"of no bytes":                    {[]string{""}, api.ErrBad},
		"of no bytes, first":             {[]string{"", "a"}, api.ErrBad},
		"of one more, first":             {[]string{long + "n", "z"}, api.ErrBad},
		"of one more, last":              {[]string{"a", "b", long + "n"}, api.ErrBad},
		"of MaxName bytes, few runes":    {[]string{strings.Repeat("é", api.MaxName/2)}, api.OK},
		"of MaxName runes, many bytes":   {[]string{strings.Repeat("é", api.MaxName)}, api.ErrBad},
		"a byte 0":                       {[]string{"\x00"}, api.OK},
		"bytes that are no runes":        {[]string{"\x80", "\xc3", "\xff\xfe"}, api.OK},
		"rising":                         {[]string{"a", "b", "c"}, api.OK},
		"one begins the next":            {[]string{"a", "aa", "ab", "b"}, api.OK},
		"one begins the next, a byte 0":  {[]string{"a", "a\x00", "a\x00\x00"}, api.OK},
		"capitals ahead":                 {[]string{"Z", "a"}, api.OK},
		"numbers by their bytes":         {[]string{"10", "9"}, api.OK},
		"bytes above 127 behind":         {[]string{"z", "\x80"}, api.OK},
		"numbers by what they count":     {[]string{"9", "10"}, api.ErrBad},
		"bytes above 127 ahead":          {[]string{"\x80", "z"}, api.ErrBad},
		"capitals behind":                {[]string{"a", "Z"}, api.ErrBad},
		"falling":                        {[]string{"b", "a"}, api.ErrBad},
		"the same twice":                 {[]string{"a", "a"}, api.ErrBad},
		"the same twice, last":           {[]string{"a", "b", "b"}, api.ErrBad},
		"the same twice, not neighbours": {[]string{"a", "b", "a"}, api.ErrBad},
		"one is begun by the next":       {[]string{"aa", "a"}, api.ErrBad},
		"the last one falls":             {[]string{"a", "c", "d", "b"}, api.ErrBad},
		"the first one falls":            {[]string{"b", "a", "c", "d"}, api.ErrBad},
	} {
		var d api.Dir
		for i, s := range c.l {
			d.Files = append(d.Files, file(s, 40+2*i, 1))
		}
		if e := files.Check(d, 64); e != c.want {
			t.Errorf("names %s: error %d, not %d", name, e, c.want)
		}
	}
}

func TestCheckExtents(t *testing.T) { // P5.1: extents that may be, are apart, and lie from First on, below the blocks
	for name, c := range map[string]struct {
		d    api.Dir
		want api.Errno
	}{
		"at First":                            {dir(file("a", first, 1)), api.OK},
		"all blocks of files":                 {dir(file("a", first, 64-first)), api.OK},
		"the last block":                      {dir(file("a", 63, 1)), api.OK},
		"one beyond":                          {dir(file("a", 64, 1)), api.ErrBad},
		"up to one beyond":                    {dir(file("a", 63, 2)), api.ErrBad},
		"all blocks, and one beyond":          {dir(file("a", first, 65-first)), api.ErrBad},
		"below First":                         {dir(file("a", first-1, 1)), api.ErrBad},
		"from below First on":                 {dir(file("a", first-1, 2)), api.ErrBad},
		"below First, in the second file":     {dir(file("a", 40, 1), file("b", 33, 1)), api.ErrBad},
		"beyond, in the second extent":        {dir(file("a", 40, 1, 64, 1)), api.ErrBad},
		"beyond, in the first extent":         {dir(file("a", 64, 1, 40, 1)), api.ErrBad},
		"a file of none":                      {dir(file("a")), api.ErrBad},
		"a file of none, not nil":             {dir(api.File{Name: "a", Extents: []api.Extent{}}), api.ErrBad},
		"the first file of none":              {dir(file("a"), file("b", 40, 1)), api.ErrBad},
		"the last file of none":               {dir(file("a", 40, 1), file("b")), api.ErrBad},
		"two of a file only touch":            {dir(file("a", 40, 2, 42, 2)), api.OK},
		"two of a file only touch, falling":   {dir(file("a", 42, 2, 40, 2)), api.OK},
		"two of a file meet":                  {dir(file("a", 40, 3, 42, 2)), api.ErrBad},
		"two of a file are the same":          {dir(file("a", 40, 3, 40, 3)), api.ErrBad},
		"two files only touch":                {dir(file("a", 40, 2), file("b", 42, 2)), api.OK},
		"two files only touch, falling":       {dir(file("a", 42, 2), file("b", 40, 2)), api.OK},
		"two files meet":                      {dir(file("a", 40, 3), file("b", 42, 2)), api.ErrBad},
		"two files meet, falling":             {dir(file("a", 42, 2), file("b", 40, 3)), api.ErrBad},
		"one file in the midst of another":    {dir(file("a", 40, 9), file("b", 44, 1)), api.ErrBad},
		"two files have the same":             {dir(file("a", 40, 1), file("b", 40, 1)), api.ErrBad},
		"the first file meets the third":      {dir(file("a", 40, 1), file("b", 50, 1), file("c", 39, 2)), api.ErrBad},
		"files between each other's extents":  {dir(file("a", 40, 1, 42, 1), file("b", 41, 1, 43, 1)), api.OK},
		"an extent of no blocks in a file's":  {dir(file("a", 40, 4, 42, 0)), api.ErrBad},
		"files in any order of their extents": {dir(file("a", 60, 4), file("b", 34, 1), file("c", 50, 10, 35, 3)), api.OK},
	} {
		if e := files.Check(c.d, 64); e != c.want {
			t.Errorf("extents %s: error %d, not %d", name, e, c.want)
		}
	}
	for name, x := range odd {
		if e := files.Check(dir(api.File{Name: "a", Extents: []api.Extent{x}}), max); e != api.ErrBad {
			t.Errorf("an extent %s: error %d", name, e)
		}
		if e := files.Check(dir(file("a", 900, 1), api.File{Name: "b", Extents: []api.Extent{{At: 910, Many: 1}, x}}), max); e != api.ErrBad {
			t.Errorf("an extent %s, last: error %d", name, e)
		}
	}
}

func TestCheckEndsOfDisks(t *testing.T) { // P5.1: up to the number of blocks, and one beyond, of each disk
	for blocks := first + 1; blocks <= max; blocks++ {
		for _, c := range []struct {
			f    api.File
			want api.Errno
		}{
			{file("a", first, blocks-first), api.OK}, {file("a", first, blocks-first+1), api.ErrBad},
			{file("a", blocks-1, 1), api.OK}, {file("a", blocks, 1), api.ErrBad}, {file("a", blocks-1, 2), api.ErrBad},
		} {
			if e := files.Check(dir(c.f), blocks); e != c.want {
				t.Fatalf("%v on %d blocks: error %d, not %d", c.f, blocks, e, c.want)
			}
		}
	}
}

func TestCheckLengths(t *testing.T) { // P5.1: MaxFiles, MaxExtents, 2,048 bytes, and one more of each
	long := func(n int) api.Dir { return dir(api.File{Name: "a", Extents: ones(first, n)}) }
	for name, c := range map[string]struct {
		d    api.Dir
		want api.Errno
	}{
		"no files, not nil":              {api.Dir{Files: []api.File{}}, api.OK},
		"MaxFiles":                       {many(api.MaxFiles), api.OK},
		"MaxFiles and one more":          {many(api.MaxFiles + 1), api.ErrBad},
		"many more files":                {api.Dir{Files: make([]api.File, 1<<20)}, api.ErrBad},
		"MaxExtents":                     {long(api.MaxExtents), api.OK},
		"MaxExtents and one more":        {long(api.MaxExtents + 1), api.ErrBad},
		"MaxBlocks extents and one more": {long(max + 1), api.ErrBad},
		"one more extent in a last file": {dir(file("A", 3000, 1), long(api.MaxExtents + 1).Files[0]), api.ErrBad},
		"MaxExtents in each of two":      {dir(long(api.MaxExtents).Files[0], api.File{Name: "b", Extents: ones(200, api.MaxExtents)}), api.OK},
		"2,047 bytes":                    {sized(room - 1), api.OK},
		"2,048 bytes":                    {sized(room), api.OK},
		"2,049 bytes":                    {sized(room + 1), api.ErrBad},
		"2,101 bytes":                    {sized(room + 53), api.ErrBad},
	} {
		if e := files.Check(c.d, max); e != c.want {
			t.Errorf("%s: error %d, not %d", name, e, c.want)
		}
	}
}

// calls are the errors of all calls that have a directory, as they are when all else is fine; those with no number of blocks are told apart.
func calls(d api.Dir, blocks int, name string) (with, without map[string]api.Errno) {
	_, create := files.Create(d, name, of(first, 1), blocks)
	_, write := files.Write(d, blocks)
	_, find := files.Find(d, name)
	_, del := files.Delete(d, name)
	_, rename := files.Rename(d, name, name)
	_, used := files.Used(d)
	return map[string]api.Errno{"Check": files.Check(d, blocks), "Create": create, "Write": write},
		map[string]api.Errno{"Find": find, "Delete": del, "Rename": rename, "Used": used}
}

func TestCheckIsFirst(t *testing.T) { // P5.1: all calls have Check's errors ahead of their own; without blocks they are MaxBlocks
	bad := dir(file("b", 40, 1), file("a", 50, 1))
	for _, name := range []string{"a", "q", "", "12345678901234567"} {
		with, without := calls(bad, first, name)
		for call, e := range with {
			if e != api.ErrArg {
				t.Errorf("%s of bad files on too few blocks, name %q: error %d", call, name, e)
			}
		}
		for call, e := range without {
			if e != api.ErrBad {
				t.Errorf("%s of bad files, name %q: error %d", call, name, e)
			}
		}
		with, _ = calls(bad, 64, name)
		for call, e := range with {
			if e != api.ErrBad {
				t.Errorf("%s of bad files, name %q: error %d", call, name, e)
			}
		}
	}
	for at, want := range map[int]api.Errno{max - 1: api.OK, max: api.ErrBad} {
		_, without := calls(dir(file("a", at, 1)), 0, "a")
		for call, e := range without {
			if e != want {
				t.Errorf("%s of block %d: error %d, not %d", call, at, e, want)
			}
		}
	}
	for _, blocks := range []int{math.MinInt, -1, 0, first, max + 1, math.MaxInt} {
		with, _ := calls(dir(file("a", 40, 1)), blocks, "a")
		for call, e := range with {
			if e != api.ErrArg {
				t.Errorf("%s on %d blocks: error %d", call, blocks, e)
			}
		}
	}
	for blocks, want := range map[int]api.Errno{49: api.ErrBad, 50: api.OK} { // a directory that may be, but on more blocks
		d := dir(file("b", 49, 1))
		_, create := files.Create(d, "a", of(40, 1), blocks)
		_, write := files.Write(d, blocks)
		if check := files.Check(d, blocks); check != want || create != want || write != want {
			t.Errorf("block 49 on %d blocks: errors %d, %d, %d, not %d", blocks, check, create, write, want)
		}
	}
}

func TestSame(t *testing.T) { // P5.1: of any directories
	odds := []api.Dir{
		{}, dir(file("a", 40, 1)), dir(file("b", 40, 1)), dir(file("a", 40, 2)), dir(file("a", 41, 1)),
		dir(file("a", 40, 1, 41, 1)), dir(file("a", 41, 1, 40, 1)), dir(file("a", 40, 1), file("b", 41, 1)),
		dir(file("a", 40, 1), file("c", 41, 1)), dir(file("a", 41, 1), file("b", 40, 1)), dir(file("", 40, 1)),
		dir(file("a", 40, 1), file("a", 40, 1)), dir(file("a")), dir(file("a"), file("a")), dir(file("a", -1, 0)),
		dir(file("a", math.MaxInt, math.MinInt)), dir(file("A", 40, 1)), dir(file("a\x00", 40, 1)), many(41), many(40),
		dir(file(strings.Repeat("n", 40), 0, 0)), sized(room), sized(room + 1), dir(file("a", 40, 1), file("b")),
	}
	for i, a := range odds {
		for j, b := range odds {
			if files.Same(a, copied(b)) != (i == j) {
				t.Errorf("Same(%v, %v): %v", a, b, i != j)
			}
		}
	}
	none := []api.Dir{dir(api.File{Name: "a"}), dir(api.File{Name: "a", Extents: []api.Extent{}})}
	if !files.Same(none[0], none[1]) || !files.Same(none[1], none[0]) || !files.Same(api.Dir{}, api.Dir{Files: []api.File{}}) {
		t.Error("lists without elements are told apart")
	}
}
