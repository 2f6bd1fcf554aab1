package fs_test

import (
	"math"
	"slices"
	"strings"
	"testing"

	"millhand/api"
	"millhand/fs"
)

// numbered is base with a byte of its own in each block of its disk's files.
func numbered() api.Fs {
	f := base()
	for n := first; n < 64; n++ {
		set(f, n, full(byte(n)))
	}
	return f
}

func TestSize(t *testing.T) { // P6.3: of Dir's files, whatever was committed
	f := withDir(base(), dir(file("b", 36, 1, 40, 2, 50, 4), file("c", 63, 1)))
	for name, want := range map[string]int{"b": 7, "c": 1} {
		wantSize(t, f, name, want, api.OK)
	}
	for name, err := range map[string]api.Errno{
		"a": api.ErrNone, "bb": api.ErrNone, "\x00": api.ErrNone, strings.Repeat("b", 16): api.ErrNone,
		"": api.ErrName, strings.Repeat("b", 17): api.ErrName,
	} {
		wantSize(t, f, name, 0, err)
	}
	wantSize(t, laid(max, 1, dir(file("a", 34, max-34))), "a", max-34, api.OK)
	wantSize(t, holed(200, 64), "a", 64, api.OK)
}

func TestGet(t *testing.T) { // P6.3: at 0, at the size - 1, at the size, in a file of more than one extent
	f := numbered()
	f.Dir.Files = append(f.Dir.Files, file("c", 62, 2, 50, 1, 55, 3)) // extents need not rise
	for name, blocks := range map[string][]int{"a": {34, 35}, "b": {36, 40, 41}, "c": {62, 63, 50, 55, 56, 57}} {
		for i, n := range blocks {
			wantGet(t, f, name, i, full(byte(n)), api.OK)
		}
		for _, i := range []int{-1, len(blocks), len(blocks) + 1, 64, 1 << 32, -1 << 32, math.MaxInt, math.MinInt} {
			wantGet(t, f, name, i, nil, api.ErrArg)
		}
	}
	for name, err := range map[string]api.Errno{"d": api.ErrNone, "": api.ErrName, strings.Repeat("a", 17): api.ErrName} {
		for _, i := range []int{0, -1, 9} {
			wantGet(t, f, name, i, nil, err)
		}
	}
}

func TestGetOfWhatWaits(t *testing.T) { // P6.3: the block as it is now
	f := numbered()
	f.Disk.Wait = []api.Put{{N: 40, Data: full(1)}, {N: 41, Data: full(2)}, {N: 40, Data: full(3)}}
	wantGet(t, f, "b", 0, full(36), api.OK)
	wantGet(t, f, "b", 1, full(3), api.OK)
	wantGet(t, f, "b", 2, full(2), api.OK)
	f.Disk.Done = []api.Act{{Put: api.Put{N: 36, Data: full(7)}}} // what was done counts for nothing
	wantGet(t, f, "b", 0, full(36), api.OK)
}

func TestPut(t *testing.T) { // P6.3: one write more waits, into the file's i-th block, and is the last act
	f := numbered()
	f.Disk.Wait, f.Disk.Done = puts(2, 41), acts(2)
	f.Dir.Files = append(f.Dir.Files, file("c", 62, 2, 50, 1))
	for name, blocks := range map[string][]int{"a": {34, 35}, "b": {36, 40, 41}, "c": {62, 63, 50}} {
		for i, n := range blocks {
			want, put := f, api.Put{N: n, Data: full(9)}
			want.Disk.Wait = append(slices.Clone(f.Disk.Wait), put)
			want.Disk.Done = append(slices.Clone(f.Disk.Done), api.Act{Put: put})
			g, e := fs.Put(f, name, i, full(9))
			wantFiles(t, "Put "+name, g, e, want)
			wantGet(t, g, name, i, full(9), api.OK)
		}
	}
}

func TestPutRefused(t *testing.T) { // P6.3, with the order of the errors where more than one would be right
	f := base()
	waits, done := base(), base()
	waits.Disk.Wait = puts(maxActs, 34)
	done.Disk.Done = acts(maxActs)
	long := strings.Repeat("a", 17)
	for name, c := range map[string]struct {
		f    api.Fs
		name string
		i    int
		b    []byte
		want api.Errno
	}{
		"the first":                        {f, "b", 0, full(1), api.OK},
		"the last":                         {f, "b", 2, full(1), api.OK},
		"the size":                         {f, "b", 3, full(1), api.ErrArg},
		"one ahead":                        {f, "b", -1, full(1), api.ErrArg},
		"a block's number":                 {f, "b", 36, full(1), api.ErrArg},
		"the greatest":                     {f, "b", math.MaxInt, full(1), api.ErrArg},
		"the least":                        {f, "b", math.MinInt, full(1), api.ErrArg},
		"2^32":                             {f, "b", 1 << 32, full(1), api.ErrArg},
		"nil":                              {f, "b", 0, nil, api.ErrText},
		"no bytes":                         {f, "b", 0, []byte{}, api.ErrText},
		"a byte less":                      {f, "b", 0, full(1)[:127], api.ErrText},
		"a byte more":                      {f, "b", 0, append(full(1), 1), api.ErrText},
		"two blocks":                       {f, "b", 0, append(full(1), full(1)...), api.ErrText},
		"none":                             {f, "c", 0, full(1), api.ErrNone},
		"one committed alone":              {withDir(f, dir(file("b", 36, 1))), "a", 0, full(1), api.ErrNone},
		"no name":                          {f, "", 0, full(1), api.ErrName},
		"a name of 17 bytes":               {f, long, 0, full(1), api.ErrName},
		"no name, the size, too short":     {f, "", 3, nil, api.ErrName},
		"none, the size, too short":        {f, "c", 3, nil, api.ErrNone},
		"the size, too short":              {f, "b", 3, full(1)[:127], api.ErrArg},
		"so much waits":                    {waits, "b", 0, full(1), api.ErrFull},
		"so much was done":                 {done, "b", 0, full(1), api.ErrFull},
		"so much waits, too short":         {waits, "b", 0, full(1)[:127], api.ErrText},
		"so much was done, too short":      {done, "b", 0, nil, api.ErrText},
		"so much waits, the size":          {waits, "b", 3, full(1), api.ErrArg},
		"so much was done, none":           {done, "c", 0, full(1), api.ErrNone},
		"so much was done, no name at all": {done, "", 0, full(1), api.ErrName},
	} {
		g, e := fs.Put(c.f, c.name, c.i, c.b)
		wantRefused(t, "Put, "+name, g, e, c.want)
	}
	waits.Disk.Wait, done.Disk.Done = waits.Disk.Wait[1:], done.Disk.Done[1:]
	for _, f := range []api.Fs{waits, done} {
		g := must(t)(fs.Put(f, "b", 0, full(1)))
		wantGet(t, g, "b", 0, full(1), api.OK)
		g, e := fs.Put(g, "b", 0, full(1))
		wantRefused(t, "Put, one more", g, e, api.ErrFull)
	}
}

func TestNames(t *testing.T) { // P6.4: of Dir, rising
	wantNames(t, laid(64, 1, api.Dir{}))
	wantNames(t, base(), "a", "b")
	wantNames(t, withDir(base(), dir(file("10", 34, 1), file("9", 35, 1), file("\xff", 36, 1))), "10", "9", "\xff")
	wantNames(t, withDir(base(), api.Dir{}))
	wantNames(t, withDir(laid(64, 1, api.Dir{}), base().Dir), "a", "b")
	f, want := laid(80, 3, many(40)), []string{}
	for _, x := range many(40).Files {
		want = append(want, x.Name)
	}
	wantNames(t, f, want...)
}

func TestFree(t *testing.T) { // P6.4: blocks from First on that neither directory has
	two := base()
	for name, c := range map[string]struct {
		f    api.Fs
		want int
	}{
		"no files":              {laid(64, 1, api.Dir{}), 30},
		"the least disk":        {laid(35, 1, api.Dir{}), 1},
		"the greatest disk":     {laid(max, 1, api.Dir{}), max - first},
		"two files":             {two, 25},
		"deleted":               {withDir(two, api.Dir{}), 25},
		"not committed":         {withDir(laid(64, 4, api.Dir{}), two.Dir), 25},
		"others":                {withDir(two, dir(file("x", 37, 3), file("y", 44, 1))), 21},
		"others that meet them": {withDir(two, dir(file("x", 35, 6))), 22},
		"all given":             {laid(64, 1, dir(file("x", 34, 30))), 0},
		"all by both":           {withDir(laid(64, 1, dir(file("x", 34, 20))), dir(file("y", 54, 10))), 0},
		"many extents":          {withDir(laid(max, 2, sized(dirRoom)), sized(dirRoom)), max - first - 640},
		"many extents of both":  {withDir(holed(200, 64), dir(api.File{Name: "b", Extents: ones(34, 64)})), 38},
	} {
		wantFree(t, name, c.f, c.want)
		c.f.Disk.Wait = puts(3, 34) // what waits counts for nothing
		wantFree(t, name+", with waits", c.f, c.want)
	}
}

func TestDeletedBlocksAndCommits(t *testing.T) { // P6.2, P6.6: what a deleted file had is given only behind the next commit, if it had it at the last one
	ok := must(t)
	f := ok(fs.Create(ok(fs.Format(44)), "a", 4))
	wantFree(t, "a made", f, 6)
	wantFree(t, "deleted ahead of any commit", ok(fs.Delete(f, "a")), 10)
	f = ok(fs.Delete(ok(fs.Commit(f)), "a"))
	wantFree(t, "deleted behind a commit", f, 6)
	x, e := fs.Create(f, "b", 7)
	wantRefused(t, "Create of 7", x, e, api.ErrRoom)
	f = ok(fs.Create(f, "b", 6))
	wantFree(t, "all given", f, 0)
	if want := dir(file("b", 38, 6)); !sameDir(f.Dir, want) {
		t.Errorf("b is %v, not %v", f.Dir, want)
	}
	f = ok(fs.Commit(f))
	wantFree(t, "committed", f, 4)
	f = ok(fs.Create(f, "c", 4))
	if want := dir(file("b", 38, 6), file("c", 34, 4)); !sameDir(f.Dir, want) {
		t.Errorf("the files are %v, not %v", f.Dir, want)
	}
}

func TestRenamedOntoKeepsBlocks(t *testing.T) { // P6.2, P6.6: a file that another one was renamed onto keeps its blocks till the next commit
	ok := must(t)
	f := ok(fs.Create(ok(fs.Create(ok(fs.Format(44)), "a", 4)), "b", 2))
	wantFree(t, "not committed", ok(fs.Rename(f, "b", "a")), 8)
	f = ok(fs.Rename(ok(fs.Commit(f)), "b", "a"))
	wantFree(t, "committed with both", f, 4)
	wantSize(t, f, "a", 2, api.OK)
	wantFree(t, "committed with one", ok(fs.Commit(f)), 8)
}
