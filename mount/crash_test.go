package mount_test

import (
	"math"
	"slices"
	"strconv"
	"testing"

	"millhand/api"
	"millhand/fs"
	"millhand/mount"
)

// calls are calls of fs, one behind the other.
type calls []func(api.Fs) (api.Fs, api.Errno)

func create(name string, blocks int) func(api.Fs) (api.Fs, api.Errno) {
	return func(f api.Fs) (api.Fs, api.Errno) { return fs.Create(f, name, blocks) }
}

func remove(name string) func(api.Fs) (api.Fs, api.Errno) {
	return func(f api.Fs) (api.Fs, api.Errno) { return fs.Delete(f, name) }
}

func rename(from, to string) func(api.Fs) (api.Fs, api.Errno) {
	return func(f api.Fs) (api.Fs, api.Errno) { return fs.Rename(f, from, to) }
}

func putIn(name string, i int, x byte) func(api.Fs) (api.Fs, api.Errno) {
	return func(f api.Fs) (api.Fs, api.Errno) { return fs.Put(f, name, i, full(x)) }
}

// behind is files behind calls, of which each must be done.
func behind(t *testing.T, f api.Fs, l ...func(api.Fs) (api.Fs, api.Errno)) api.Fs {
	t.Helper()
	for _, call := range l {
		f = ok[api.Fs](t)(call(f))
	}
	return f
}

// earlier are files on which nothing was done: a and b are committed, on blocks of their own bytes, and two writes wait.
func earlier() api.Fs {
	return filesOf(waiting(laid(64, 4, two()), put(34, 101), put(41, 102)), 4, two())
}

// rows are ways from the earlier files to later ones.
func rows() map[string]calls {
	return map[string]calls{
		"nothing":                     {},
		"in memory alone":             {create("c", 2), remove("a"), rename("b", "d")},
		"a sync":                      {fs.Sync},
		"writes":                      {putIn("a", 1, 1), putIn("b", 2, 2), putIn("a", 1, 3)},
		"writes and syncs":            {putIn("a", 0, 1), fs.Sync, putIn("a", 0, 2), fs.Sync, fs.Sync, putIn("b", 0, 3)},
		"a commit":                    {fs.Commit},
		"a commit of a file":          {create("c", 3), putIn("c", 2, 9), fs.Commit},
		"a commit, and more":          {create("c", 3), putIn("c", 2, 9), remove("a"), fs.Commit, putIn("c", 2, 8), create("d", 1), putIn("d", 0, 7)},
		"a commit ahead of all":       {fs.Commit, remove("a"), putIn("b", 1, 5), fs.Sync},
		"two commits":                 {create("c", 1), fs.Commit, create("d", 1), putIn("d", 0, 6), fs.Commit},
		"blocks that are given again": {remove("a"), fs.Commit, create("d", 2), putIn("d", 0, 6), putIn("d", 1, 5), fs.Commit},
	}
}

// keeps are lists to keep by: all of some length, a few longer and shorter ones.
func keeps(waits int) [][]bool {
	l := [][]bool{nil, {}, keepOf(1, 1), keepOf(2, 2), keepOf(1<<(waits+3)-1, waits+3), keepOf(1<<waits, waits+1)}
	for bits := range 1 << waits {
		l = append(l, keepOf(bits, waits))
	}
	return l
}

func TestCrash(t *testing.T) { // P7.2: the first acts, none to all, and of what waits then those that are kept
	for name, row := range rows() {
		before := earlier()
		after := behind(t, before, row...)
		for many := range len(after.Disk.Done) + 1 {
			cut := plainDone(before.Disk, after.Disk.Done[:many])
			for _, keep := range keeps(len(cut.Wait)) {
				d, e := mount.Crash(before, after, many, keep)
				if want := plainLoss(cut, keep); e != api.OK || !sameDisk(d, want) {
					t.Errorf("%s, %d acts, %v kept: error %d, or another disk", name, many, keep, e)
				}
			}
		}
	}
}

func TestCrashOfNone(t *testing.T) { // P7.2: before itself, and where no act was done; the later one's directory counts for nothing
	before := earlier()
	for name, after := range map[string]api.Fs{
		"itself": before, "another directory": behind(t, before, remove("a"), create("c", 1)),
	} {
		for bits := range 8 {
			d := ok[api.Disk](t)(mount.Crash(before, after, 0, keepOf(bits, 3)))
			if !sameDisk(d, plainLoss(before.Disk, keepOf(bits, 3))) {
				t.Errorf("%s, %d kept: another disk", name, bits)
			}
		}
	}
	changed := before
	changed.Dir = dir(file("z", 50, 3)) // what is in memory alone is not asked for
	ok[api.Disk](t)(mount.Crash(changed, behind(t, before, fs.Commit), 3, nil))
}

func TestCrashManyRefused(t *testing.T) { // P7.2: ErrArg, unless many is from 0 to how many acts there are
	for name, row := range rows() {
		before := earlier()
		after := behind(t, before, row...)
		acts := len(after.Disk.Done)
		for _, many := range []int{-1, -2, acts + 1, acts + 2, 1 << 20, 1 << 32, math.MinInt, math.MaxInt} {
			for _, keep := range [][]bool{nil, {true}, keepOf(-1, 9)} {
				d, e := mount.Crash(before, after, many, keep)
				wantAlone(t, name+", many "+strconv.Itoa(many), d, e, api.ErrArg)
			}
		}
		for _, many := range []int{0, acts} {
			ok[api.Disk](t)(mount.Crash(before, after, many, nil))
		}
	}
}

// wantBad looks whether two states are refused by ErrBad, whatever many and keep are: it stands ahead of ErrArg.
func wantBad(t *testing.T, name string, before, after api.Fs) {
	t.Helper()
	for _, many := range []int{0, 1, len(after.Disk.Done), len(after.Disk.Done) + 1, -1, math.MinInt, math.MaxInt} {
		for _, keep := range [][]bool{nil, {true}, keepOf(-1, 9)} {
			d, e := mount.Crash(before, after, many, keep)
			wantAlone(t, name+", many "+strconv.Itoa(many), d, e, api.ErrBad)
		}
	}
}

func TestCrashOfBadFiles(t *testing.T) { // P7.2: ErrBad, unless both may be
	for name, change := range map[string]func(f *api.Fs){
		"nothing at all":         func(f *api.Fs) { *f = api.Fs{} },
		"no disk":                func(f *api.Fs) { f.Disk = api.Disk{} },
		"the gen 0":              func(f *api.Fs) { f.Gen = 0 },
		"another gen":            func(f *api.Fs) { f.Gen += 2 },
		"another committed one":  func(f *api.Fs) { f.Kept = api.Dir{} },
		"a directory below":      func(f *api.Fs) { f.Dir = dir(file("a", 33, 1)) },
		"a directory beyond":     func(f *api.Fs) { f.Dir = dir(file("a", 63, 2)) },
		"a name twice":           func(f *api.Fs) { f.Dir = dir(file("a", 40, 1), file("a", 41, 1)) },
		"a wait into block 33":   func(f *api.Fs) { f.Disk = waiting(f.Disk, put(33, 1)) },
		"a wait of 127 bytes":    func(f *api.Fs) { f.Disk = waiting(f.Disk, api.Put{N: 40, Data: full(1)[:127]}) },
		"a wait beyond the disk": func(f *api.Fs) { f.Disk = waiting(f.Disk, put(64, 1)) },
	} {
		good := earlier()
		bad := earlier()
		change(&bad)
		wantBad(t, name+" before", bad, good)
		wantBad(t, name+" before, behind acts", bad, behind(t, good, fs.Commit))
		wantBad(t, name+" after", good, bad)
		wantBad(t, name+" both", bad, bad)
		later := behind(t, good, fs.Commit)
		change(&later)
		wantBad(t, name+" after acts", good, later)
	}
	after := earlier()
	after.Disk = done(after.Disk, api.Act{Sync: true, Put: put(40, 1)})
	wantBad(t, "an act that may not be", earlier(), after)
}

func TestCrashOfAWorkedDisk(t *testing.T) { // P7.2: ErrBad, if something was done on the disk of before
	fresh := earlier()
	worked := behind(t, fresh, fs.Commit)
	for name, before := range map[string]api.Fs{
		"a commit":     worked,
		"a sync":       behind(t, fresh, fs.Sync),
		"a write":      behind(t, fresh, putIn("a", 0, 1)),
		"a lone sync":  {Disk: done(fresh.Disk, synced()), Gen: 4, Dir: two(), Kept: two()},
		"a lone write": {Disk: done(fresh.Disk, wrote(34, 1)), Gen: 4, Dir: two(), Kept: two()},
	} {
		wantBad(t, name+", itself", before, before)
		wantBad(t, name+", and more", before, behind(t, before, create("c", 2), fs.Commit))
		cleared := behind(t, before, fs.Clear)
		ok[api.Disk](t)(mount.Crash(cleared, behind(t, cleared, create("c", 2), fs.Commit), 3, nil))
		wantBad(t, name+", and what was done behind a clear", before, behind(t, cleared, fs.Commit))
	}
}

func TestCrashOfStrangers(t *testing.T) { // P7.2: ErrBad, unless what was done on after's disk makes it of before's
	before := earlier()
	after := behind(t, before, create("c", 3), putIn("c", 1, 9), fs.Commit, putIn("a", 0, 8))
	ok[api.Disk](t)(mount.Crash(before, after, 2, nil))
	wantBad(t, "the wrong way round", behind(t, after, fs.Clear), before)
	wantBad(t, "cleared behind it", before, behind(t, after, fs.Clear))
	wantBad(t, "cleared in the midst", before, behind(t, before, putIn("a", 0, 1), fs.Clear, fs.Commit))
	for name, change := range map[string]func(d *api.Disk){
		"an act fewer at the end":       func(d *api.Disk) { d.Done = d.Done[:len(d.Done)-1] },
		"an act fewer at the beginning": func(d *api.Disk) { d.Done = d.Done[1:] },
		"an act twice":                  func(d *api.Disk) { d.Done = append(slices.Clone(d.Done), d.Done[len(d.Done)-1]) },
		"a sync more":                   func(d *api.Disk) { *d = done(*d, synced()) },
		"another write":                 func(d *api.Disk) { d.Done = slices.Clone(d.Done); d.Done[0] = wrote(38, 77) },
		"acts the other way round":      func(d *api.Disk) { d.Done = slices.Clone(d.Done); slices.Reverse(d.Done) },
		"a wait fewer":                  func(d *api.Disk) { d.Wait = d.Wait[1:] },
		"a wait more":                   func(d *api.Disk) { *d = waiting(*d, put(34, 8)) },
		"a wait of another byte":        func(d *api.Disk) { d.Wait = []api.Put{put(34, 7)} },
		"a wait into another block":     func(d *api.Disk) { d.Wait = []api.Put{put(35, 8)} },
		"another byte of a file":        func(d *api.Disk) { d.Data[63*128]++ },
		"another byte of an old block":  func(d *api.Disk) { d.Data[33*128]++ },
		"a block more":                  func(d *api.Disk) { d.Data = append(d.Data, full(0)...) },
		"a block less":                  func(d *api.Disk) { d.Data = d.Data[:63*128] },
	} {
		x := after
		x.Disk.Data = slices.Clone(x.Disk.Data)
		change(&x.Disk)
		if e := fs.Check(x); e != api.OK {
			t.Fatalf("%s: the files of the test may not be: error %d", name, e)
		}
		wantBad(t, name, before, x)
		y := before
		y.Disk.Data = slices.Clone(y.Disk.Data)
		set(y.Disk, 63, full(1))
		wantBad(t, name+", of another earlier one", y, x)
	}
}

func TestCrashWhereActsCannotBeDone(t *testing.T) { // P7.2: ErrBad, too, where dev.Do refuses what was done: with an act beyond before's disk, or with too much
	before := filesOf(laid(64, 4, two()), 4, two())
	after := filesOf(laid(80, 4, two()), 4, two())
	after.Disk = done(after.Disk, wrote(70, 70), synced())
	wantBad(t, "a greater disk", before, after)

	before.Disk.Wait = slices.Repeat([]api.Put{put(50, 5)}, maxActs)
	after = filesOf(laid(64, 4, two()), 4, two())
	after.Disk.Wait = before.Disk.Wait
	ok[api.Disk](t)(mount.Crash(before, after, 0, nil))
	after.Disk.Done = []api.Act{wrote(50, 5)}
	d, e := mount.Crash(before, after, 1, nil)
	wantAlone(t, "a write more than may wait", d, e, api.ErrBad)
	d, e = mount.Crash(before, after, 0, nil)
	wantAlone(t, "a write more than may wait, that is not done", d, e, api.ErrBad)
}

func TestCrashOfMuch(t *testing.T) { // P7.2: as many acts as a disk may have, and as many writes that wait
	before := filesOf(laid(64, 4, two()), 4, two())
	after := before
	after.Disk.Data = slices.Clone(before.Disk.Data)
	after.Disk.Done = slices.Repeat([]api.Act{wrote(50, 5)}, maxActs)
	after.Disk.Done[maxActs-1] = wrote(51, 6)
	for _, a := range after.Disk.Done {
		after.Disk.Wait = append(after.Disk.Wait, a.Put)
	}
	keep := make([]bool, maxActs+1)
	keep[maxActs-1] = true
	d := ok[api.Disk](t)(mount.Crash(before, after, maxActs, keep))
	if want := plainLoss(after.Disk, keep); !sameDisk(d, want) {
		t.Error("all acts: another disk")
	}
	d = ok[api.Disk](t)(mount.Crash(before, after, maxActs-1, keep))
	if !sameDisk(d, before.Disk) {
		t.Error("all acts but one: another disk")
	}
	x, e := mount.Crash(before, after, maxActs+1, keep)
	wantAlone(t, "one act more than there are", x, e, api.ErrArg)
}
