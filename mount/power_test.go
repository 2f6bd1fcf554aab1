package mount_test

import (
	"bytes"
	"slices"
	"strconv"
	"testing"

	"millhand/api"
	"millhand/dev"
	"millhand/fs"
	"millhand/mount"
)

// dice are numbers that hang on nothing but how many were asked for.
type dice uint32

func (d *dice) below(n int) int {
	*d = *d*1664525 + 1013904223
	return int(*d>>8) % n
}

// someKeeps are lists to keep by: all that there are, if few writes wait, else some of them.
func (d *dice) someKeeps(waits int) [][]bool {
	if waits < 5 {
		return keeps(waits)
	}
	l := [][]bool{nil, slices.Repeat([]bool{true}, waits)}
	for range 12 {
		keep := make([]bool, waits)
		for i := range keep {
			keep[i] = d.below(2) == 0
		}
		l = append(l, keep)
	}
	return l
}

// blocksOf are the blocks of all files of a directory.
func blocksOf(d api.Dir) []int {
	var l []int
	for _, f := range d.Files {
		for _, x := range f.Extents {
			for i := range x.Many {
				l = append(l, x.At+i)
			}
		}
	}
	return l
}

// blockOf is what lasts in a block.
func blockOf(d api.Disk, n int) []byte { return d.Data[n*api.Block : (n+1)*api.Block] }

// wantBlocks looks whether each block of opened files has what lasted there on the disk whose power failed, or what a write wrote that waited.
func wantBlocks(t *testing.T, row string, f api.Fs, cut api.Disk) {
	t.Helper()
	for _, n := range blocksOf(f.Dir) {
		b := blockOf(f.Disk, n)
		if !bytes.Equal(b, blockOf(cut, n)) && !slices.ContainsFunc(cut.Wait, func(p api.Put) bool {
			return p.N == n && bytes.Equal(b, p.Data)
		}) {
			t.Fatalf("%s: the block %d has what was never there", row, n)
		}
	}
}

// wantReopened looks whether files, opened again behind a loss of power, have the committed directory as both, and the blocks that they may have.
func wantReopened(t *testing.T, row string, f api.Fs, d *dice) {
	t.Helper()
	for _, keep := range d.someKeeps(len(f.Disk.Wait)) {
		lost := ok[api.Disk](t)(dev.Crash(f.Disk, keep))
		wantOpen(t, row, lost, filesOf(lost, f.Gen, f.Kept))
		wantBlocks(t, row, ok[api.Fs](t)(mount.Open(lost)), f.Disk)
	}
}

// between is two states of files, and where the commit's acts begin and end among those that were done; without a commit both are where they end.
type between struct {
	before, after api.Fs
	begin, end    int
}

// wantEither looks, wherever power fails between two states, whether what is opened is the earlier one's committed directory or the later one's: this behind the commit, that ahead of it.
func wantEither(t *testing.T, row string, s between, d *dice) {
	t.Helper()
	for many := range len(s.after.Disk.Done) + 1 {
		cut := plainDone(s.before.Disk, s.after.Disk.Done[:many])
		for _, keep := range d.someKeeps(len(cut.Wait)) {
			f := ok[api.Fs](t)(mount.Open(ok[api.Disk](t)(mount.Crash(s.before, s.after, many, keep))))
			is := func(x api.Fs) bool { return f.Gen == x.Gen && sameDir(f.Dir, x.Kept) && sameDir(f.Kept, x.Kept) }
			if fs.Check(f) != api.OK || !is(s.before) && !is(s.after) {
				t.Fatalf("%s, %d acts, %v kept: the gen %d is opened, with %q", row, many, keep, f.Gen, names(f.Dir))
			}
			if many <= s.begin && !is(s.before) || many >= s.end && !is(s.after) {
				t.Fatalf("%s, %d acts, %v kept: the gen %d is opened, a commit from %d to %d", row, many, keep, f.Gen, s.begin, s.end)
			}
			wantBlocks(t, row, f, cut)
		}
	}
}

// turn is a call of fs with its name.
type turn struct {
	name string
	call func(api.Fs) (api.Fs, api.Errno)
}

// gone is files behind turns, those of them that are not refused; of commits the first one alone.
func gone(before api.Fs, l []turn) between {
	s := between{before: before, after: before, begin: -1}
	for _, c := range l {
		if c.name == "Commit" && s.begin >= 0 {
			continue
		}
		f, e := c.call(s.after)
		if e != api.OK {
			continue
		}
		if c.name == "Commit" {
			s.begin, s.end = len(s.after.Disk.Done), len(f.Disk.Done)
		}
		s.after = f
	}
	if s.begin < 0 {
		s.begin, s.end = len(s.after.Disk.Done), len(s.after.Disk.Done)
	}
	return s
}

// anyTurn is one of all kinds of calls but Clear, with a name and a size that often may be.
func (d *dice) anyTurn() turn {
	of := []string{"", "a", "b", "ab", "log", "0123456789abcdef"}
	a, b := of[d.below(len(of))], of[d.below(len(of))]
	switch k := d.below(20); {
	case k < 6:
		return turn{"Create", create(a, d.below(6))}
	case k < 9:
		return turn{"Delete", remove(a)}
	case k < 11:
		return turn{"Rename", rename(a, b)}
	case k < 16:
		return turn{"Put", putIn(a, d.below(5), byte(1+d.below(250)))}
	case k < 18:
		return turn{"Sync", fs.Sync}
	default:
		return turn{"Commit", fs.Commit}
	}
}

func (d *dice) someTurns(many int) []turn {
	var l []turn
	for range many {
		l = append(l, d.anyTurn())
	}
	return l
}

func TestPowerInShortRows(t *testing.T) { // P7.4, W2: all rows of three calls behind some files, power failing at each act
	all := []turn{
		{"Create", create("c", 2)}, {"Delete", remove("a")}, {"Rename", rename("b", "a")}, {"Put", putIn("a", 1, 1)},
		{"Put", putIn("c", 0, 2)}, {"Put", putIn("b", 0, 3)}, {"Sync", fs.Sync}, {"Commit", fs.Commit},
	}
	d := dice(1)
	for i := range len(all) * len(all) * len(all) {
		l := []turn{all[i/len(all)/len(all)], all[i/len(all)%len(all)], all[i%len(all)]}
		row := l[0].name + ", " + l[1].name + ", " + l[2].name
		s := gone(earlier(), l)
		wantEither(t, row, s, &d)
		wantReopened(t, row, s.after, &d)
	}
}

func TestPowerInNamedRows(t *testing.T) { // P7.4: the rows that the tests of Crash take, but those of two commits
	d := dice(2)
	for name, row := range rows() {
		after := behind(t, earlier(), row...)
		wantReopened(t, name, after, &d)
		if after.Gen < 6 {
			wantEither(t, name, between{earlier(), after, -1, len(after.Disk.Done) + 1}, &d)
		}
	}
}

func TestPowerInLongRows(t *testing.T) { // P7.4, W2: rows of calls on disks that get full, from one state to the next
	for blocks := 36; blocks < 62; blocks += 5 {
		d := dice(blocks)
		f := ok[api.Fs](t)(fs.Format(blocks))
		for range 40 {
			s := gone(f, d.someTurns(9))
			wantEither(t, "on "+strconv.Itoa(blocks)+" blocks", s, &d)
			wantReopened(t, "on "+strconv.Itoa(blocks)+" blocks", s.after, &d)
			f = ok[api.Fs](t)(fs.Clear(s.after))
		}
	}
}

func TestPowerInGreatDirectories(t *testing.T) { // P7.4: a directory of as many blocks as there may be, of which any are kept
	for _, c := range []struct{ before, after api.Dir }{{lots(40), wide(2048)}, {wide(2048), lots(3)}, {wide(2047), wide(2048)}, {api.Dir{}, wide(1951)}} {
		d := dice(3)
		f := filesOf(laid(1500, 4, c.before), 4, c.before)
		f.Dir = c.after
		wantEither(t, "great", gone(f, []turn{{"Commit", fs.Commit}}), &d)
	}
}

func TestPowerFailsAgain(t *testing.T) { // P7.4, W2: what is opened goes on, and loses power, again and again
	d := dice(4)
	f := ok[api.Fs](t)(fs.Format(52))
	earlier, later := 0, 0
	for range 600 {
		s := gone(f, append(d.someTurns(5), turn{"Commit", fs.Commit}))
		many := d.below(len(s.after.Disk.Done) + 1)
		keep := keepOf(d.below(1<<16), 16)
		cut := plainDone(s.before.Disk, s.after.Disk.Done[:many])
		g := ok[api.Fs](t)(mount.Open(ok[api.Disk](t)(mount.Crash(s.before, s.after, many, keep))))
		want := s.before
		if g.Gen == s.after.Gen {
			want = s.after
			later++
		} else {
			earlier++
		}
		if fs.Check(g) != api.OK || g.Gen != want.Gen || !sameDir(g.Dir, want.Kept) || !sameDir(g.Kept, want.Kept) {
			t.Fatalf("the gen %d is opened, with %q", g.Gen, names(g.Dir))
		}
		wantBlocks(t, "again", g, cut)
		f = g
	}
	if earlier < 100 || later < 100 {
		t.Errorf("%d times the earlier one, %d times the later one", earlier, later)
	}
}

func TestPowerInTwoCommits(t *testing.T) { // P7.2, P7.4: with more commits than one, one of all that were committed
	before := earlier()
	one := behind(t, before, create("c", 1), fs.Commit)
	after := behind(t, one, remove("a"), create("d", 1), fs.Commit)
	met := map[uint32]int{}
	for many := range len(after.Disk.Done) + 1 {
		for _, keep := range keeps(3) {
			f := ok[api.Fs](t)(mount.Open(ok[api.Disk](t)(mount.Crash(before, after, many, keep))))
			met[f.Gen]++
			want := map[uint32]api.Dir{4: before.Kept, 5: one.Kept, 6: after.Kept}[f.Gen]
			if !sameDir(f.Dir, want) || !sameDir(f.Kept, want) {
				t.Errorf("%d acts: the gen %d with %q", many, f.Gen, names(f.Dir))
			}
		}
	}
	if met[4] == 0 || met[5] == 0 || met[6] == 0 || len(met) != 3 {
		t.Errorf("opened: %v", met)
	}
}
