package fs_test

import (
	"math"
	"slices"
	"strings"
	"testing"

	"millhand/api"
	"millhand/fs"
)

var ones128 = full(1)

func TestExamples(t *testing.T) { // the chapter's table
	ok := must(t)
	f := ok(fs.Format(64))
	wantFree(t, "F", f, 30)
	wantNames(t, f)
	if f.Gen != 1 {
		t.Errorf("F is of the gen %d", f.Gen)
	}
	a := ok(fs.Create(f, "a", 3))
	wantFree(t, "a made", a, 27)
	wantSize(t, a, "a", 3, api.OK)
	a = ok(fs.Put(a, "a", 2, ones128))
	wantGet(t, a, "a", 2, ones128, api.OK)
	wantGet(t, a, "a", 3, nil, api.ErrArg)
	c := ok(fs.Commit(ok(fs.Clear(a))))
	wantFree(t, "a committed", c, 27)
	if want := []int{-1, 2, -1, 0, -1}; c.Gen != 2 || !slices.Equal(told(c.Disk), want) {
		t.Errorf("a commit: the gen %d, the acts %v, not 2, %v", c.Gen, told(c.Disk), want)
	}
	g := ok(fs.Delete(c, "a"))
	wantFree(t, "a deleted", g, 27)
	g = ok(fs.Commit(g))
	wantFree(t, "that committed", g, 30)
	if g.Gen != 3 {
		t.Errorf("the second commit's gen is %d", g.Gen)
	}
	x, e := fs.Create(f, "a", 31)
	wantRefused(t, "Create(F, a, 31)", x, e, api.ErrRoom)
	x, e = fs.Create(f, "a", 0)
	wantRefused(t, "Create(F, a, 0)", x, e, api.ErrArg)
	x, e = fs.Put(f, "a", 0, ones128)
	wantRefused(t, "Put(F, a, 0, ones)", x, e, api.ErrNone)
	x, e = fs.Format(34)
	wantRefused(t, "Format(34)", x, e, api.ErrArg)
}

// withDir is f with another directory, else as it is.
func withDir(f api.Fs, d api.Dir) api.Fs {
	f.Dir = d
	return f
}

func TestCreateTakesTheFirst(t *testing.T) { // P6.2: the first ones of the blocks that neither directory has
	two := base() // a of (34 2), b of (36 1) (40 2)
	for name, c := range map[string]struct {
		f      api.Fs
		blocks int
		want   []api.Extent
	}{
		"on an empty disk":                    {laid(64, 1, api.Dir{}), 1, of(34, 1)},
		"all of it":                           {laid(64, 1, api.Dir{}), 30, of(34, 30)},
		"all of the least disk":               {laid(35, 1, api.Dir{}), 1, of(34, 1)},
		"all of the greatest disk":            {laid(max, 1, api.Dir{}), max - first, of(34, max-first)},
		"a hole, whole":                       {two, 3, of(37, 3)},
		"a part of a hole":                    {two, 2, of(37, 2)},
		"a hole, and some behind":             {two, 5, of(37, 3, 42, 2)},
		"all that there is":                   {two, 25, of(37, 3, 42, 22)},
		"all deleted, as committed":           {withDir(two, api.Dir{}), 5, of(37, 3, 42, 2)},
		"one deleted, as committed":           {withDir(two, dir(file("b", 36, 1, 40, 2))), 1, of(37, 1)},
		"committed as none":                   {withDir(laid(64, 4, api.Dir{}), two.Dir), 5, of(37, 3, 42, 2)},
		"beside both":                         {withDir(two, dir(file("x", 37, 3), file("y", 44, 1))), 3, of(42, 2, 45, 1)},
		"beside both, which meet":             {withDir(two, dir(file("x", 35, 6))), 2, of(42, 2)},
		"every second block":                  {holed(36+2*3, 3), 5, of(34, 1, 36, 1, 38, 1, 40, 2)},
		"as many extents as a file may have":  {holed(34+2*63+1, 63), 64, ones(34, 64)},
		"in as many, the last one of several": {holed(200, 63), 70, append(ones(34, 63), of(160, 7)...)},
	} {
		d := copied(c.f.Dir)
		d.Files = append(d.Files, api.File{Name: "z", Extents: c.want})
		want := withDir(c.f, d)
		g, e := fs.Create(c.f, "z", c.blocks)
		wantFiles(t, "Create "+name, g, e, want)
		wantSize(t, g, "z", c.blocks, api.OK)
	}
}

func TestCreateAtThePlaceOfItsName(t *testing.T) { // P6.2: names go on rising
	f := laid(64, 2, dir(file("b", 34, 1), file("d", 35, 1)))
	for name, want := range map[string][]string{
		"a": {"a", "b", "d"}, "bb": {"b", "bb", "d"}, "c": {"b", "c", "d"}, "e": {"b", "d", "e"},
		"\x00": {"\x00", "b", "d"}, "\xff": {"b", "d", "\xff"}, strings.Repeat("c", 16): {"b", strings.Repeat("c", 16), "d"},
	} {
		g := must(t)(fs.Create(f, name, 2))
		wantNames(t, g, want...)
		wantSize(t, g, name, 2, api.OK)
		wantNames(t, f, "b", "d")
	}
}

func TestCreateRefused(t *testing.T) { // P6.2, with the order of the errors where more than one would be right
	two, long := base(), strings.Repeat("n", 17)
	fullDir := laid(200, 4, many(40))
	noBlocks := laid(36, 1, dir(file("a", 34, 2)))
	for name, c := range map[string]struct {
		f      api.Fs
		name   string
		blocks int
		want   api.Errno
	}{
		"no name":                               {two, "", 1, api.ErrName},
		"a name of 17 bytes":                    {two, long, 1, api.ErrName},
		"a name of 16 bytes":                    {two, long[:16], 1, api.OK},
		"no name, nor blocks":                   {two, "", 0, api.ErrName},
		"a long name, too many blocks":          {two, long, max + 1, api.ErrName},
		"no name, no room":                      {noBlocks, "", 1, api.ErrName},
		"no name, a full directory":             {fullDir, "", 1, api.ErrName},
		"one that is there":                     {two, "b", 1, api.ErrThere},
		"there, no blocks":                      {two, "a", 0, api.ErrThere},
		"there, too many blocks":                {two, "a", max + 1, api.ErrThere},
		"there, no room":                        {noBlocks, "a", 1, api.ErrThere},
		"there, a full directory":               {fullDir, "f07", 1, api.ErrThere},
		"deleted, but committed":                {withDir(two, api.Dir{}), "a", 1, api.OK},
		"no blocks":                             {two, "c", 0, api.ErrArg},
		"fewer than none":                       {two, "c", -1, api.ErrArg},
		"the least number":                      {two, "c", math.MinInt, api.ErrArg},
		"one block":                             {two, "c", 1, api.OK},
		"as many as can be given":               {two, "c", 25, api.OK},
		"one more":                              {two, "c", 26, api.ErrRoom},
		"as many as were there without files":   {two, "c", 30, api.ErrRoom},
		"as many as the disk has":               {two, "c", 64, api.ErrRoom},
		"MaxBlocks":                             {two, "c", max, api.ErrRoom},
		"one more than MaxBlocks":               {two, "c", max + 1, api.ErrArg},
		"2^32 and one":                          {two, "c", 1<<32 + 1, api.ErrArg},
		"the greatest number":                   {two, "c", math.MaxInt, api.ErrArg},
		"no blocks, where none can be given":    {noBlocks, "c", 0, api.ErrArg},
		"one, where none can be given":          {noBlocks, "c", 1, api.ErrRoom},
		"MaxBlocks, where none can be given":    {noBlocks, "c", max, api.ErrRoom},
		"one more, where none can be given":     {noBlocks, "c", max + 1, api.ErrArg},
		"MaxBlocks on a disk of so many":        {laid(max, 1, api.Dir{}), "c", max, api.ErrRoom},
		"all that files may have there":         {laid(max, 1, api.Dir{}), "c", max - first, api.OK},
		"one more than that":                    {laid(max, 1, api.Dir{}), "c", max - first + 1, api.ErrRoom},
		"blocks of what was committed":          {withDir(noBlocks, api.Dir{}), "c", 1, api.ErrRoom},
		"blocks of what is not committed":       {withDir(laid(36, 1, api.Dir{}), noBlocks.Dir), "c", 1, api.ErrRoom},
		"the last file of a directory":          {laid(200, 4, many(39)), "c", 1, api.OK},
		"one file more than that":               {fullDir, "c", 1, api.ErrRoom},
		"one more, committed as fewer":          {withDir(laid(200, 4, api.Dir{}), many(40)), "c", 1, api.ErrRoom},
		"one more, of fewer now":                {withDir(fullDir, many(39)), "c", 1, api.OK},
		"one file more, no blocks":              {fullDir, "c", 0, api.ErrArg},
		"one file more, too many blocks":        {fullDir, "c", max + 1, api.ErrArg},
		"64 extents":                            {holed(200, 63), "c", 64, api.OK},
		"64 extents, the last one longer":       {holed(200, 63), "c", 103, api.OK},
		"65 extents":                            {holed(200, 64), "c", 65, api.ErrRoom},
		"as many blocks in 65 extents as free":  {holed(200, 64), "c", 102, api.ErrRoom},
		"a directory of 2048 bytes":             {laid(max, 2, sized(2043)), "z", 1, api.OK}, // 1 and z, 1, 34, 1
		"one of 2049":                           {laid(max, 2, sized(2044)), "z", 1, api.ErrRoom},
		"one of 2048 by a name of two":          {laid(max, 2, sized(2042)), "zz", 1, api.OK},
		"one of 2049 by a name of two":          {laid(max, 2, sized(2043)), "zz", 1, api.ErrRoom},
		"one of 2049, committed as one without": {withDir(laid(max, 2, api.Dir{}), sized(2044)), "z", 1, api.ErrRoom},
	} {
		if e := fs.Check(c.f); e != api.OK {
			t.Fatalf("%s: the files of the test may not be: error %d", name, e)
		}
		g, e := fs.Create(c.f, c.name, c.blocks)
		wantRefused(t, "Create, "+name, g, e, c.want)
		if e == api.OK {
			wantSize(t, g, c.name, c.blocks, api.OK)
		}
	}
}

func TestDelete(t *testing.T) { // P6.2: files' errors; the disk, the gen and what was committed stay
	f := base()
	f.Disk.Wait, f.Disk.Done = puts(2, 40), append(acts(3), api.Act{Put: puts(1, 2)[0]})
	for name, c := range map[string]struct {
		f    api.Fs
		name string
		want api.Dir
		err  api.Errno
	}{
		"the first":               {f, "a", dir(file("b", 36, 1, 40, 2)), api.OK},
		"the last":                {f, "b", dir(file("a", 34, 2)), api.OK},
		"the only one":            {withDir(f, dir(file("q", 50, 1))), "q", api.Dir{}, api.OK},
		"none of that name":       {f, "c", api.Dir{}, api.ErrNone},
		"the begin of a name":     {laid(64, 1, dir(file("ab", 34, 1))), "a", api.Dir{}, api.ErrNone},
		"one committed alone":     {withDir(f, dir(file("b", 36, 1))), "a", api.Dir{}, api.ErrNone},
		"of no files":             {laid(64, 1, api.Dir{}), "a", api.Dir{}, api.ErrNone},
		"no name":                 {f, "", api.Dir{}, api.ErrName},
		"a name of 17 bytes":      {f, strings.Repeat("a", 17), api.Dir{}, api.ErrName},
		"a name of 16, not there": {f, strings.Repeat("a", 16), api.Dir{}, api.ErrNone},
	} {
		g, e := fs.Delete(c.f, c.name)
		if c.err != api.OK {
			wantRefused(t, "Delete, "+name, g, e, c.err)
			continue
		}
		wantFiles(t, "Delete, "+name, g, e, withDir(c.f, c.want))
	}
}

func TestRename(t *testing.T) { // P6.2: files' errors; the disk, the gen and what was committed stay
	f := base()
	f.Disk.Wait, f.Disk.Done = puts(2, 40), append(acts(3), api.Act{Put: puts(1, 2)[0]})
	long, wide := strings.Repeat("n", 17), laid(max, 2, sized(dirRoom))
	some := wide.Dir.Files[0].Name
	for name, c := range map[string]struct {
		f        api.Fs
		from, to string
		want     api.Dir
		err      api.Errno
	}{
		"a new name":            {f, "a", "c", dir(file("b", 36, 1, 40, 2), file("c", 34, 2)), api.OK},
		"a new name, ahead":     {f, "b", "A", dir(file("A", 36, 1, 40, 2), file("a", 34, 2)), api.OK},
		"onto another":          {f, "a", "b", dir(file("b", 34, 2)), api.OK},
		"onto another, ahead":   {f, "b", "a", dir(file("a", 36, 1, 40, 2)), api.OK},
		"to itself":             {f, "b", "b", f.Dir, api.OK},
		"to a committed name":   {withDir(f, dir(file("b", 36, 1))), "b", "a", dir(file("a", 36, 1)), api.OK},
		"a name of 16 bytes":    {f, "a", long[:16], dir(file("b", 36, 1, 40, 2), file(long[:16], 34, 2)), api.OK},
		"none of that name":     {f, "c", "d", api.Dir{}, api.ErrNone},
		"one committed alone":   {withDir(f, dir(file("b", 36, 1))), "a", "c", api.Dir{}, api.ErrNone},
		"none, to one there":    {f, "c", "a", api.Dir{}, api.ErrNone},
		"from no name":          {f, "", "a", api.Dir{}, api.ErrName},
		"to no name":            {f, "a", "", api.Dir{}, api.ErrName},
		"to a name of 17":       {f, "a", long, api.Dir{}, api.ErrName},
		"from a name of 17":     {f, long, "a", api.Dir{}, api.ErrName},
		"none, to no name":      {f, "c", "", api.Dir{}, api.ErrName},
		"beyond 2048 bytes":     {wide, some, some + "a", api.Dir{}, api.ErrRoom},
		"none, beyond the room": {wide, some + "a", some + "aa", api.Dir{}, api.ErrNone},
	} {
		g, e := fs.Rename(c.f, c.from, c.to)
		if c.err != api.OK {
			wantRefused(t, "Rename, "+name, g, e, c.err)
			continue
		}
		wantFiles(t, "Rename, "+name, g, e, withDir(c.f, c.want))
	}
}

func TestTheDiskStays(t *testing.T) { // P6.2: nothing is done to it, and what waits goes on waiting
	f := base()
	f.Disk.Wait = append(puts(1, 34), puts(2, 63)...)
	f.Disk.Done = []api.Act{{Put: puts(1, 0)[0]}, {Sync: true}, {Put: puts(1, 34)[0]}}
	for name, do := range map[string]func() (api.Fs, api.Errno){
		"Create": func() (api.Fs, api.Errno) { return fs.Create(f, "c", 9) },
		"Delete": func() (api.Fs, api.Errno) { return fs.Delete(f, "b") },
		"Rename": func() (api.Fs, api.Errno) { return fs.Rename(f, "b", "a") },
	} {
		g := must(t)(do())
		if !sameDisk(g.Disk, f.Disk) || g.Gen != f.Gen || !sameDir(g.Kept, f.Kept) {
			t.Errorf("%s: the disk, the gen, or what was committed changed", name)
		}
	}
	full := base()
	full.Disk.Wait, full.Disk.Done = puts(maxActs, 34), acts(maxActs)
	for name, do := range map[string]func() (api.Fs, api.Errno){
		"Create": func() (api.Fs, api.Errno) { return fs.Create(full, "c", 9) },
		"Delete": func() (api.Fs, api.Errno) { return fs.Delete(full, "b") },
		"Rename": func() (api.Fs, api.Errno) { return fs.Rename(full, "b", "a") },
	} {
		if g := must(t)(do()); !sameDisk(g.Disk, full.Disk) {
			t.Errorf("%s, where no act can be done: the disk changed", name)
		}
	}
}
