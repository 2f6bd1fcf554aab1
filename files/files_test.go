package files_test

import (
	"bytes"
	"slices"
	"strings"
	"testing"

	"millhand/api"
	"millhand/files"
)

func TestExamples(t *testing.T) { // the chapter's examples
	d := dir(file("a", 34, 2))
	both, e := files.Create(d, "b", of(36, 1, 40, 2), 64)
	wantDir(t, "Create", both, e, dir(file("a", 34, 2), file("b", 36, 1, 40, 2)), api.OK)
	if l, e := files.Used(both); e != api.OK || !slices.Equal(l, of(34, 2, 36, 1, 40, 2)) {
		t.Errorf("Used: %v, error %d", l, e)
	}
	for _, c := range []struct {
		name string
		l    []api.Extent
		want api.Errno
	}{{"a", of(36, 1), api.ErrThere}, {"b", of(35, 1), api.ErrBad}, {"b", of(63, 2), api.ErrBad}, {"b", nil, api.ErrBad}} {
		x, e := files.Create(d, c.name, c.l, 64)
		wantRefused(t, "Create", x, e, c.want)
	}
	x, e := files.Rename(d, "a", "c")
	wantDir(t, "Rename", x, e, dir(file("c", 34, 2)), api.OK)
	x, e = files.Rename(both, "b", "a")
	wantDir(t, "Rename onto", x, e, dir(file("a", 36, 1, 40, 2)), api.OK)
	if b, e := files.Write(d, 64); e != api.OK || !bytes.Equal(b, []byte{1, 1, 97, 1, 34, 2}) {
		t.Errorf("Write: %v, error %d", b, e)
	}
	wantFind(t, d, "b", nil, api.ErrNone)
	x, e = files.Delete(d, "")
	wantRefused(t, "Delete of no name", x, e, api.ErrName)
	if e := files.Check(d, 34); e != api.ErrArg {
		t.Errorf("Check on 34 blocks: error %d", e)
	}
}

func TestNamesOfCalls(t *testing.T) { // P5.2, P5.3: ErrName ahead of all that follows
	for _, d := range []api.Dir{{}, dir(file("a", 40, 1)), many(api.MaxFiles), sized(room)} {
		for _, name := range oddNames {
			wantFind(t, d, name, nil, api.ErrName)
			x, e := files.Delete(d, name)
			wantRefused(t, "Delete", x, e, api.ErrName)
			for _, l := range [][]api.Extent{of(50, 1), nil, of(40, 1), of(0, 0), ones(900, 65)} {
				x, e = files.Create(d, name, l, max)
				wantRefused(t, "Create", x, e, api.ErrName)
			}
			for _, other := range []string{"a", "q", "f00", "", name} {
				x, e = files.Rename(d, name, other)
				wantRefused(t, "Rename of what is no name", x, e, api.ErrName)
				x, e = files.Rename(d, other, name)
				wantRefused(t, "Rename to what is no name", x, e, api.ErrName)
			}
		}
	}
	long := strings.Repeat("n", api.MaxName)
	d, e := files.Create(dir(file("a", 40, 1)), long, of(50, 1), 64)
	wantDir(t, "Create of a name of MaxName bytes", d, e, dir(file("a", 40, 1), file(long, 50, 1)), api.OK)
	wantFind(t, d, long, of(50, 1), api.OK)
	x, e := files.Rename(d, "a", strings.Repeat("b", api.MaxName))
	wantDir(t, "Rename to a name of MaxName bytes", x, e, dir(file(strings.Repeat("b", api.MaxName), 40, 1), file(long, 50, 1)), api.OK)
	x, e = files.Rename(d, long, "b")
	wantDir(t, "Rename of a name of MaxName bytes", x, e, dir(file("a", 40, 1), file("b", 50, 1)), api.OK)
	x, e = files.Delete(d, long)
	wantDir(t, "Delete of a name of MaxName bytes", x, e, dir(file("a", 40, 1)), api.OK)
}

func TestFindAndDelete(t *testing.T) { // P5.2: each file of each number of them, and all that stand between
	for n := range api.MaxFiles + 1 {
		d := many(n)
		for i, f := range d.Files {
			wantFind(t, d, f.Name, f.Extents, api.OK)
			x, e := files.Delete(d, f.Name)
			wantDir(t, "Delete", x, e, api.Dir{Files: slices.Delete(slices.Clone(d.Files), i, i+1)}, api.OK)
			for _, name := range []string{f.Name[:2], f.Name + "\x00", f.Name[:2] + "/", strings.ToUpper(f.Name)} {
				wantFind(t, d, name, nil, api.ErrNone)
				x, e := files.Delete(d, name)
				wantRefused(t, "Delete of none", x, e, api.ErrNone)
			}
		}
		for _, name := range []string{"a", "z", "f", "\x00", "\xff"} {
			wantFind(t, d, name, nil, api.ErrNone)
			x, e := files.Delete(d, name)
			wantRefused(t, "Delete of none", x, e, api.ErrNone)
		}
	}
	d := dir(file("a", 60, 1, 50, 2, 40, 1), file("aa", 34, 1), file("b", 62, 2, 61, 1))
	wantFind(t, d, "a", of(60, 1, 50, 2, 40, 1), api.OK)
	wantFind(t, d, "b", of(62, 2, 61, 1), api.OK)
	x, e := files.Delete(d, "aa")
	wantDir(t, "Delete in the midst", x, e, dir(d.Files[0], d.Files[2]), api.OK)
}

func TestCreatePlaces(t *testing.T) { // P5.2: a new file stands where its name rises
	d := dir(file("b", 40, 1), file("d", 41, 1), file("dd", 42, 1))
	for at, names := range map[int][]string{
		0: {"a", "B", "\x00", "aaaaaaaaaaaaaaaa"}, 1: {"b\x00", "bb", "c", "czzzzzzzzzzzzzzz"},
		2: {"d\x00", "da", "dczz"}, 3: {"dd\x00", "de", "e", "\x80", "\xff"},
	} {
		for _, name := range names {
			x, e := files.Create(d, name, of(50, 2, 45, 1), 64)
			wantDir(t, "Create of "+name, x, e, api.Dir{Files: slices.Insert(slices.Clone(d.Files), at, file(name, 50, 2, 45, 1))}, api.OK)
		}
	}
	x, e := files.Create(api.Dir{}, "a", of(first, 1), first+1)
	wantDir(t, "Create of the first file", x, e, dir(file("a", first, 1)), api.OK)
	for _, f := range d.Files {
		x, e := files.Create(d, f.Name, of(50, 1), 64)
		wantRefused(t, "Create of what is there", x, e, api.ErrThere)
	}
}

func TestCreateExtents(t *testing.T) { // P5.2: which extents a new file may have, beside those of others
	d := dir(file("b", 40, 2), file("d", 50, 1, 44, 2))
	for name, c := range map[string]struct {
		l    []api.Extent
		want api.Errno
	}{
		"none":                              {nil, api.ErrBad},
		"none, not nil":                     {[]api.Extent{}, api.ErrBad},
		"at First":                          {of(first, 1), api.OK},
		"below First":                       {of(first-1, 1), api.ErrBad},
		"from below First on":               {of(first-1, 2), api.ErrBad},
		"the last block":                    {of(63, 1), api.OK},
		"up to the end":                     {of(51, 13), api.OK},
		"up to one beyond":                  {of(51, 14), api.ErrBad},
		"one beyond":                        {of(64, 1), api.ErrBad},
		"in any order":                      {of(63, 1, 60, 2, 34, 1), api.OK},
		"that touch each other":             {of(60, 1, 61, 1), api.OK},
		"that meet each other":              {of(60, 2, 61, 1), api.ErrBad},
		"one twice":                         {of(60, 1, 60, 1), api.ErrBad},
		"that touch the first file":         {of(42, 2, 39, 1), api.OK},
		"that meet the first file":          {of(41, 1), api.ErrBad},
		"that end in the first file":        {of(39, 2), api.ErrBad},
		"that begin in the first file":      {of(41, 2), api.ErrBad},
		"that meet the last file":           {of(45, 1), api.ErrBad},
		"that meet the last file's first":   {of(50, 1), api.ErrBad},
		"around a file":                     {of(38, 9), api.ErrBad},
		"the last of which meets a file":    {of(60, 1, 61, 1, 44, 1), api.ErrBad},
		"the first of which is beyond":      {of(64, 1, 60, 1), api.ErrBad},
		"all that are left":                 {of(34, 6, 42, 2, 46, 4, 51, 13), api.OK},
		"all that are left, and one more":   {of(34, 6, 42, 2, 46, 4, 51, 14), api.ErrBad},
		"of no blocks":                      {of(60, 0), api.ErrBad},
		"the last of which is of no blocks": {of(60, 1, 61, 0), api.ErrBad},
	} {
		x, e := files.Create(d, "c", c.l, 64)
		if c.want != api.OK {
			wantRefused(t, "extents "+name, x, e, c.want)
			continue
		}
		wantDir(t, "extents "+name, x, e, dir(d.Files[0], api.File{Name: "c", Extents: c.l}, d.Files[1]), api.OK)
	}
	for name, x := range odd {
		got, e := files.Create(d, "c", []api.Extent{x}, max)
		wantRefused(t, "an extent "+name, got, e, api.ErrBad)
		got, e = files.Create(d, "c", []api.Extent{{At: 60, Many: 1}, x}, max)
		wantRefused(t, "an extent "+name+", last", got, e, api.ErrBad)
	}
}

func TestCreateRoom(t *testing.T) { // P5.2: MaxFiles, MaxExtents, 2,048 bytes, and one more of each
	x, e := files.Create(many(api.MaxFiles-1), "f39", of(first+39, 1), max)
	wantDir(t, "the last of MaxFiles", x, e, many(api.MaxFiles), api.OK)
	for _, name := range []string{"a", "f07a", "z"} {
		x, e = files.Create(many(api.MaxFiles), name, of(900, 1), max)
		wantRefused(t, "one more than MaxFiles", x, e, api.ErrRoom)
	}
	d := dir(file("a", 40, 1))
	x, e = files.Create(d, "b", ones(900, api.MaxExtents), max)
	wantDir(t, "MaxExtents", x, e, dir(d.Files[0], api.File{Name: "b", Extents: ones(900, api.MaxExtents)}), api.OK)
	for _, n := range []int{api.MaxExtents + 1, api.MaxExtents + 2, 600, 700, max - 900} {
		x, e = files.Create(d, "b", ones(900, n), max)
		wantRefused(t, "more than MaxExtents", x, e, api.ErrRoom)
	}
	for left := range 40 { // the room that is left is the name's, and of an extent of four bytes
		d := sized(room - left)
		for size := 1; size <= api.MaxName; size++ {
			name := strings.Repeat("z", size)
			x, e := files.Create(d, name, of(3000, 200), max)
			if 1+size+1+4 > left {
				wantRefused(t, "more than 2,048 bytes", x, e, api.ErrRoom)
				continue
			}
			wantDir(t, "up to 2,048 bytes", x, e, api.Dir{Files: append(slices.Clone(d.Files), file(name, 3000, 200))}, api.OK)
		}
	}
}

func TestCreateOrderOfErrors(t *testing.T) { // P5.2: the first one that the chapter tells, where several would be right
	bad := dir(file("b", 40, 1), file("a", 41, 1))
	for name, c := range map[string]struct {
		d      api.Dir
		name   string
		l      []api.Extent
		blocks int
		want   api.Errno
	}{
		"blocks ahead of the directory":        {bad, "", nil, first, api.ErrArg},
		"the directory ahead of the name":      {bad, "", nil, 64, api.ErrBad},
		"the directory ahead of what is there": {bad, "a", of(50, 1), 64, api.ErrBad},
		"the name ahead of the extents":        {many(40), "", of(0, 0), max, api.ErrName},
		"what is there ahead of no extents":    {many(40), "f00", nil, max, api.ErrThere},
		"what is there ahead of bad extents":   {many(40), "f39", of(0, 0), max, api.ErrThere},
		"what is there ahead of the room":      {many(40), "f20", ones(900, 65), max, api.ErrThere},
		"no extents ahead of MaxFiles":         {many(40), "a", nil, max, api.ErrBad},
		"bad extents ahead of MaxFiles":        {many(40), "a", of(34, 1), max, api.ErrBad},
		"blocks beyond ahead of MaxFiles":      {many(40), "a", of(100, 1), 100, api.ErrBad},
		"one that meets ahead of MaxExtents":   {dir(file("b", 40, 1)), "a", append(ones(900, 65), of(40, 1)...), max, api.ErrBad},
		"one beyond ahead of MaxExtents":       {dir(file("b", 40, 1)), "a", append(ones(900, 65), of(max, 1)...), max, api.ErrBad},
		"the same again and again":             {dir(file("b", 40, 1)), "a", slices.Repeat(of(900, 1), 65), max, api.ErrBad},
		"more extents than blocks":             {dir(file("b", 40, 1)), "a", slices.Repeat(of(900, 1), max+1), max, api.ErrBad},
		"as many extents as all blocks":        {api.Dir{}, "a", ones(0, max), max, api.ErrBad},
		"bad extents ahead of 2,048 bytes":     {sized(room), "zz", of(128, 1), max, api.ErrBad},
		"2,048 bytes":                          {sized(room), "zz", of(3000, 1), max, api.ErrRoom},
		"MaxFiles and MaxExtents":              {many(40), "a", ones(900, 65), max, api.ErrRoom},
	} {
		x, e := files.Create(c.d, c.name, c.l, c.blocks)
		wantRefused(t, name, x, e, c.want)
	}
}

func TestRename(t *testing.T) { // P5.3
	a, b, d := file("a", 40, 2, 34, 1), file("b", 50, 1), file("d", 60, 2)
	named := func(f api.File, name string) api.File { f.Name = name; return f }
	whole := dir(a, b, d)
	for name, c := range map[string]struct {
		from, to string
		want     api.Dir
		err      api.Errno
	}{
		"the first one, last":             {"a", "e", dir(b, d, named(a, "e")), api.OK},
		"the first one, in the midst":     {"a", "c", dir(b, named(a, "c"), d), api.OK},
		"the first one, still first":      {"a", "A", dir(named(a, "A"), b, d), api.OK},
		"the first one, to one more byte": {"a", "aa", dir(named(a, "aa"), b, d), api.OK},
		"the last one, first":             {"d", "0", dir(named(d, "0"), a, b), api.OK},
		"the last one, still last":        {"d", "z", dir(a, b, named(d, "z")), api.OK},
		"one in the midst, first":         {"b", "\x00", dir(named(b, "\x00"), a, d), api.OK},
		"one in the midst, last":          {"b", "dd", dir(a, d, named(b, "dd")), api.OK},
		"onto the next":                   {"a", "b", dir(named(a, "b"), d), api.OK},
		"onto the one ahead":              {"b", "a", dir(named(b, "a"), d), api.OK},
		"onto the last":                   {"a", "d", dir(b, named(a, "d")), api.OK},
		"onto the first":                  {"d", "a", dir(named(d, "a"), b), api.OK},
		"to the same name, first":         {"a", "a", whole, api.OK},
		"to the same name, in the midst":  {"b", "b", whole, api.OK},
		"to the same name, last":          {"d", "d", whole, api.OK},
		"of none":                         {"c", "e", api.Dir{}, api.ErrNone},
		"of none, onto one":               {"c", "a", api.Dir{}, api.ErrNone},
		"of none, to the same name":       {"c", "c", api.Dir{}, api.ErrNone},
		"of no name, to none":             {"", "e", api.Dir{}, api.ErrName},
		"of none, to no name":             {"c", "", api.Dir{}, api.ErrName},
		"to no name":                      {"a", "", api.Dir{}, api.ErrName},
		"of no name to no name":           {"", "", api.Dir{}, api.ErrName},
		"to too long a name":              {"a", "12345678901234567", api.Dir{}, api.ErrName},
		"of none, to too long a name":     {"c", "12345678901234567", api.Dir{}, api.ErrName},
		"of too long a name":              {"12345678901234567", "a", api.Dir{}, api.ErrName},
	} {
		x, e := files.Rename(whole, c.from, c.to)
		if c.err != api.OK {
			wantRefused(t, name, x, e, c.err)
			continue
		}
		wantDir(t, name, x, e, c.want, api.OK)
	}
}

func TestRenameRoom(t *testing.T) { // P5.3: 2,048 bytes and one more, with what is gone left out
	for left := range 8 {
		d := sized(room - left)
		from := d.Files[9].Name
		for more := range api.MaxName - len(from) + 1 {
			to := strings.Repeat("k", len(from)+more)
			x, e := files.Rename(d, from, to)
			if more > left {
				wantRefused(t, "more than 2,048 bytes", x, e, api.ErrRoom)
				continue
			}
			wantDir(t, "up to 2,048 bytes", x, e, api.Dir{Files: append(slices.Clone(d.Files[:9]), api.File{Name: to, Extents: d.Files[9].Extents})}, api.OK)
		}
	}
	d := sized(room)
	for i, f := range d.Files { // a full directory: to a name as long or shorter, the same name, and onto another file
		for _, to := range []string{f.Name, f.Name[:1], strings.Repeat("m", len(f.Name))} {
			if x, e := files.Rename(d, f.Name, to); e != api.OK || len(x.Files) != 10 {
				t.Errorf("Rename of file %d to %q: %d files, error %d", i, to, len(x.Files), e)
			}
		}
		for j, g := range d.Files {
			if x, e := files.Rename(d, f.Name, g.Name); i != j && (e != api.OK || len(x.Files) != 9) {
				t.Errorf("Rename of file %d onto %d: %d files, error %d", i, j, len(x.Files), e)
			}
		}
	}
	x, e := files.Rename(d, "none", strings.Repeat("m", api.MaxName))
	wantRefused(t, "ErrNone ahead of ErrRoom", x, e, api.ErrNone)
	x, e = files.Rename(d, d.Files[0].Name, strings.Repeat("m", api.MaxName+1))
	wantRefused(t, "ErrName ahead of ErrRoom", x, e, api.ErrName)
}

func TestRenameOntoMakesRoom(t *testing.T) { // P5.3: the bytes of the one that is gone do not count
	short := dir(append([]api.File{file("0", 100, 1)}, sized(room-6).Files...)...)
	if n := len(plainBytes(short)); n != room-1 {
		t.Fatalf("%d bytes", n)
	}
	last := short.Files[10].Name
	x, e := files.Rename(short, "0", last) // the name is longer by ten bytes, but a file of 64 extents is gone
	wantDir(t, "Rename onto", x, e, dir(append(slices.Clone(short.Files[1:10]), file(last, 100, 1))...), api.OK)
	x, e = files.Rename(short, "0", "00")
	wantDir(t, "Rename by one byte", x, e, dir(append([]api.File{file("00", 100, 1)}, short.Files[1:]...)...), api.OK)
	x, e = files.Rename(short, "0", "000")
	wantRefused(t, "Rename by two bytes", x, e, api.ErrRoom)
}

func TestUsed(t *testing.T) { // P5.4: file by file, each file's extents as they stand
	for _, c := range []struct {
		d    api.Dir
		want []api.Extent
		err  api.Errno
	}{
		{api.Dir{}, nil, api.OK},
		{dir(file("a", 34, 2)), of(34, 2), api.OK},
		{dir(file("a", 60, 2, 34, 1), file("b", 50, 1), file("c", 40, 3, 43, 1)), of(60, 2, 34, 1, 50, 1, 40, 3, 43, 1), api.OK},
		{many(api.MaxFiles), ones(first, api.MaxFiles), api.OK},
		{sized(room), ones(128, 640), api.OK},
		{dir(file("a", first, max-first)), of(first, max-first), api.OK},
		{dir(file("a", first, max-first+1)), nil, api.ErrBad},
		{dir(file("a", 40, 2), file("b", 41, 1)), nil, api.ErrBad},
		{sized(room + 1), nil, api.ErrBad},
	} {
		if l, e := files.Used(c.d); e != c.err || !slices.Equal(l, c.want) {
			t.Errorf("Used: %v, error %d, not %v, error %d", l, e, c.want, c.err)
		}
	}
}
