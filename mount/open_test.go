package mount_test

import (
	"slices"
	"strconv"
	"testing"

	"millhand/api"
	"millhand/dev"
	"millhand/fs"
	"millhand/mount"
)

func TestExamples(t *testing.T) { // the chapter's table
	f := ok[api.Fs](t)(fs.Clear(ok[api.Fs](t)(fs.Format(64))))
	g := ok[api.Fs](t)(fs.Commit(ok[api.Fs](t)(fs.Create(f, "a", 2))))
	none, a := api.Dir{}, dir(file("a", 34, 2))
	wantOpen(t, "Open(F's disk)", f.Disk, filesOf(f.Disk, 1, none))
	wantOpen(t, "Open(G's disk)", g.Disk, filesOf(g.Disk, 2, a))
	for name, c := range map[string]struct {
		many int
		keep []bool
		gen  uint32
		want api.Dir
	}{
		"Crash(F, G, 3, none)": {3, nil, 1, none},
		"Crash(F, G, 4, none)": {4, nil, 1, none},
		"Crash(F, G, 4, true)": {4, []bool{true}, 2, a},
	} {
		d := ok[api.Disk](t)(mount.Crash(f, g, c.many, c.keep))
		wantOpen(t, name, d, filesOf(d, c.gen, c.want))
	}
	d, e := mount.Crash(f, g, 6, nil)
	wantAlone(t, "Crash(F, G, 6, none)", d, e, api.ErrArg)
	d, e = mount.Crash(g, f, 0, nil)
	wantAlone(t, "Crash(G, F, 0, none)", d, e, api.ErrBad)
	x, e := mount.Open(ok[api.Disk](t)(dev.New(64)))
	wantAlone(t, "Open(a disk of noughts)", x, e, api.ErrStore)
}

// over is a disk with bytes over what lasts, from a block on.
func over(d api.Disk, block int, b []byte) api.Disk {
	set(d, block, b)
	return d
}

func TestOpen(t *testing.T) { // P7.1: the disk as it is, but for what was done; the latest gen; its directory twice
	none := api.Dir{}
	both := laid(64, 7, dir(file("c", 50, 4)))
	lay(both, 8, plainDir(two()))
	for name, c := range map[string]struct {
		d    api.Disk
		gen  uint32
		want api.Dir
	}{
		"two files":                       {laid(64, 4, two()), 4, two()},
		"two files of an odd gen":         {laid(64, 5, two()), 5, two()},
		"no files":                        {laid(64, 1, none), 1, none},
		"the gen 2":                       {laid(64, 2, two()), 2, two()},
		"a gen of four bytes":             {laid(64, 0x01020304, two()), 0x01020304, two()},
		"the greatest gen":                {laid(64, greatest, two()), greatest, two()},
		"a block more than First":         {laid(35, 1, none), 1, none},
		"that block is a file's":          {laid(35, 2, dir(file("a", 34, 1))), 2, dir(file("a", 34, 1))},
		"MaxBlocks":                       {laid(max, 3, dir(file("a", 34, max-34))), 3, dir(file("a", 34, max-34))},
		"as few blocks as the files ask":  {laid(42, 4, two()), 4, two()},
		"40 files":                        {laid(80, 4, lots(40)), 4, lots(40)},
		"a directory of 2048 bytes":       {laid(max, 4, wide(2048)), 4, wide(2048)},
		"2048 bytes in the other":         {laid(max, 5, wide(2048)), 5, wide(2048)},
		"a gen ahead lasts, too":          {both, 8, two()},
		"a greater one in the wrong slot": {over(laid(64, 4, two()), 1, plainSuper(6, 1)), 4, two()},
		"a greater one of a wrong size":   {over(laid(64, 4, two()), 1, plainSuper(5, 2049)), 4, two()},
		"a greater one with a byte more":  {over(laid(64, 4, two()), 1, append(plainSuper(5, 1)[:127], 1)), 4, two()},
		"no superblock in the other slot": {over(laid(64, 4, two()), 1, full(255)), 4, two()},
		"a gen ahead without a directory": {over(over(laid(64, 4, two()), 1, plainSuper(3, 9)), 18, full(255)), 4, two()},
		"bytes behind the directory's":    {over(over(laid(64, 4, two()), 3, full(255)), 17, full(1)), 4, two()},
		"bytes in the other directory":    {over(over(laid(64, 4, two()), 18, full(255)), 33, full(1)), 4, two()},
		"any bytes in the files' blocks":  {over(over(laid(64, 4, two()), 34, full(255)), 63, full(0)), 4, two()},
	} {
		for how, d := range map[string]api.Disk{
			"as it is":            c.d,
			"a block waits":       waiting(c.d, put(first, 9)),
			"blocks wait":         waiting(c.d, put(len(c.d.Data)/api.Block-1, 1), put(first, 2), put(first, 3), put(first, 2)),
			"things were done":    done(c.d, synced(), wrote(34, 1), wrote(0, 2), synced()),
			"they were, and wait": done(waiting(c.d, put(first, 9)), wrote(first, 9)),
		} {
			wantOpen(t, name+", "+how, d, filesOf(d, c.gen, c.want))
		}
	}
}

func TestOpenOfMuch(t *testing.T) { // P7.1: as much waits, and was done, as a disk may have
	d := laid(64, 4, two())
	d.Wait = slices.Repeat([]api.Put{put(50, 5)}, maxActs)
	d.Done = slices.Repeat([]api.Act{synced()}, maxActs)
	wantOpen(t, "much", d, filesOf(d, 4, two()))
	more := waiting(d, put(50, 5))
	f, e := mount.Open(more)
	wantAlone(t, "a write more", f, e, api.ErrDisk)
	more = done(d, synced())
	f, e = mount.Open(more)
	wantAlone(t, "an act more", f, e, api.ErrDisk)
}

// noDisks are disks that may not be, though each would be opened but for the one thing that is wrong.
func noDisks() map[string]api.Disk {
	d := laid(64, 4, two())
	return map[string]api.Disk{
		"nothing":                 {},
		"a byte less":             {Data: d.Data[:64*128-1]},
		"a byte more":             {Data: append(slices.Clone(d.Data), 0)},
		"less than a block":       {Data: d.Data[:127]},
		"a block too many":        laid(max+1, 4, two()),
		"a wait beyond it":        waiting(d, put(64, 1)),
		"a wait ahead of it":      waiting(d, put(-1, 1)),
		"a wait of 127 bytes":     waiting(d, api.Put{N: 40, Data: full(1)[:127]}),
		"a wait of 129 bytes":     waiting(d, api.Put{N: 40, Data: make([]byte, 129)}),
		"a wait without bytes":    waiting(d, put(40, 1), api.Put{N: 40}),
		"an act beyond it":        done(d, synced(), wrote(64, 1)),
		"an act of 127 bytes":     done(d, api.Act{Put: api.Put{N: 40, Data: full(1)[:127]}}),
		"a sync with a number":    done(d, api.Act{Sync: true, Put: api.Put{N: 1}}),
		"a sync with bytes":       done(d, api.Act{Sync: true, Put: put(0, 1)}),
		"an act without anything": done(d, api.Act{}),
	}
}

func TestOpenOfNoDisk(t *testing.T) { // P7.1: super.Latest's error, which is dev.Check's, ahead of ErrStore
	for name, d := range noDisks() {
		f, e := mount.Open(d)
		wantAlone(t, name, f, e, api.ErrDisk)
		f, e = mount.Open(waiting(d, api.Put{N: 0, Data: full(1)}, api.Put{N: 33, Data: full(1)}))
		wantAlone(t, name+", and a write waits below First", f, e, api.ErrDisk)
		if len(d.Data) < 3*api.Block {
			continue
		}
		for how, change := range map[string]func(api.Disk){
			"no superblock": func(d api.Disk) { set(d, 0, full(0)) },
			"no directory":  func(d api.Disk) { set(d, 2, full(255)) },
		} {
			x := d
			x.Data = slices.Clone(d.Data)
			change(x)
			f, e = mount.Open(x)
			wantAlone(t, name+", and "+how, f, e, api.ErrDisk)
		}
	}
}

func TestOpenWithoutSuperblock(t *testing.T) { // P7.1: super.Latest's ErrStore: too few blocks, or no superblock
	for name, d := range map[string]api.Disk{
		"one block":                   {Data: plainSuper(4, 1)},
		"two blocks":                  {Data: append(full(0), plainSuper(1, 1)...)},
		"a block less than First":     laid(33, 4, api.Dir{}),
		"First blocks":                laid(first, 4, api.Dir{}),
		"First blocks of the gen 1":   laid(first, 1, api.Dir{}),
		"noughts":                     {Data: make([]byte, 64*api.Block)},
		"no superblock":               blank(64),
		"the gen 0":                   over(laid(64, 4, two()), 0, plainSuper(0, 1)),
		"a size of 2049":              over(laid(64, 4, two()), 0, plainSuper(4, 2049)),
		"a byte behind it":            over(laid(64, 4, two()), 0, append(plainSuper(4, 26)[:127], 1)),
		"in the wrong slot":           over(over(laid(64, 4, two()), 1, plainSuper(4, 26)), 0, full(0)),
		"an odd one in the wrong one": over(blank(64), 0, plainSuper(3, 1)),
		"full blocks":                 over(over(blank(64), 0, full(255)), 1, full(255)),
	} {
		f, e := mount.Open(d)
		wantAlone(t, name, f, e, api.ErrStore)
		f, e = mount.Open(done(d, synced()))
		wantAlone(t, name+", and something was done", f, e, api.ErrStore)
		f, e = mount.Open(waiting(d, api.Put{N: 0, Data: plainSuper(4, 1)}))
		wantAlone(t, name+", and one waits", f, e, api.ErrStore)
	}
}

func TestOpenWhereLowBlocksWait(t *testing.T) { // P7.1: ErrStore of any write that waits into a block below First
	d := laid(64, 4, two())
	for n := range first {
		name := "a wait into block " + strconv.Itoa(n)
		same := api.Put{N: n, Data: slices.Clone(d.Data[n*api.Block : (n+1)*api.Block])}
		for how, l := range map[string][]api.Put{
			"alone":                 {put(n, 1)},
			"of what stands there":  {same},
			"ahead of others":       {put(n, 1), put(40, 1), put(34, 2)},
			"behind others":         {put(40, 1), put(34, 2), put(n, 1)},
			"between others":        {put(63, 1), same, put(63, 2)},
			"twice, as it was last": {put(n, 7), same},
		} {
			f, e := mount.Open(waiting(d, l...))
			wantAlone(t, name+", "+how, f, e, api.ErrStore)
		}
		wantOpen(t, name+", which was done", done(d, wrote(n, 1)), filesOf(d, 4, two()))
	}
	wantOpen(t, "a wait into First", waiting(d, put(first, 1)), filesOf(waiting(d, put(first, 1)), 4, two()))
}

func TestOpenWithoutDirectory(t *testing.T) { // P7.1: ErrStore, where the latest superblock's bytes are no directory
	bad := map[string]api.Disk{
		"a size of 0":                    over(laid(64, 4, two()), 0, plainSuper(4, 0)),
		"a size of 0, and no files":      over(laid(64, 4, api.Dir{}), 0, plainSuper(4, 0)),
		"a size of one more":             over(laid(64, 4, two()), 0, plainSuper(4, len(plainDir(two()))+1)),
		"a size of one less":             over(laid(64, 4, two()), 0, plainSuper(4, len(plainDir(two()))-1)),
		"a size of 2048":                 over(laid(64, 4, two()), 0, plainSuper(4, 2048)),
		"full blocks":                    over(laid(64, 4, two()), 2, full(255)),
		"noughts":                        over(laid(64, 4, two()), 2, full(0)),
		"a byte of a later block":        over(laid(80, 4, lots(40)), 4, []byte{255, 255}),
		"in the other's blocks alone":    over(over(laid(64, 4, two()), 18, plainDir(two())), 2, full(255)),
		"in the other's, of an odd gen":  over(over(laid(64, 5, two()), 2, plainDir(two())), 18, full(255)),
		"a file beyond the disk":         laid(64, 4, dir(file("a", 63, 2))),
		"a file below First":             laid(64, 4, dir(file("a", 33, 1))),
		"files that meet":                laid(64, 4, dir(file("a", 40, 2), file("b", 41, 1))),
		"names that fall":                laid(64, 4, dir(file("b", 40, 2), file("a", 42, 1))),
		"a name twice":                   laid(64, 4, dir(file("a", 40, 2), file("a", 42, 1))),
		"no name":                        laid(64, 4, dir(file("", 40, 2))),
		"a name of 17 bytes":             laid(64, 4, dir(file("0123456789abcdefg", 40, 2))),
		"no extents":                     laid(64, 4, dir(file("a"))),
		"no blocks":                      laid(64, 4, dir(file("a", 40, 0))),
		"41 files":                       laid(80, 4, lots(41)),
		"2049 bytes, of which one less":  over(laid(max, 4, wide(2049)), 0, plainSuper(4, 2048)),
		"one block less than files have": laid(41, 4, two()),
	}
	later := laid(64, 4, two())
	lay(later, 5, []byte{1})
	bad["a later one of no directory, an earlier one of one"] = later
	for name, d := range bad {
		f, e := mount.Open(d)
		wantAlone(t, name, f, e, api.ErrStore)
		f, e = mount.Open(done(waiting(d, put(34, 1)), wrote(34, 1)))
		wantAlone(t, name+", and something was done and waits", f, e, api.ErrStore)
		f, e = mount.Open(waiting(d, put(33, 1)))
		wantAlone(t, name+", and a block below First waits", f, e, api.ErrStore)
	}
}

func TestOpenOfWhatIsOpened(t *testing.T) { // P7.1: opened once more, it is the same
	d := done(waiting(laid(64, 4, two()), put(40, 1)), wrote(40, 1))
	f := ok[api.Fs](t)(mount.Open(d))
	wantOpen(t, "again", f.Disk, f)
	f = ok[api.Fs](t)(fs.Delete(f, "a")) // what is not committed is forgotten
	wantOpen(t, "forgotten", f.Disk, filesOf(d, 4, two()))
}
