package fs_test

import (
	"bytes"
	"slices"
	"strconv"
	"strings"
	"testing"

	"millhand/api"
	"millhand/fs"
)

// spoken is files on which some things wait and were done, and whose directory is another one than what was committed.
func spoken() api.Fs {
	f := withDir(numbered(), dir(file("b", 36, 1, 40, 2), file("c", 50, 3)))
	f.Disk.Wait = []api.Put{{N: 50, Data: full(1)}, {N: 40, Data: full(2)}, {N: 50, Data: full(3)}}
	f.Disk.Done = []api.Act{{Sync: true}, {Put: api.Put{N: 50, Data: full(1)}}, {Put: api.Put{N: 40, Data: full(2)}}, {Put: api.Put{N: 50, Data: full(3)}}}
	return f
}

// synced is a disk's data with all that waits laid over them.
func synced(d api.Disk) []byte {
	b := bytes.Clone(d.Data)
	for _, p := range d.Wait {
		copy(b[p.N*api.Block:], p.Data)
	}
	return b
}

// committed are the acts of a commit of f as the chapter tells them, and f behind it.
func committed(f api.Fs) ([]api.Act, api.Fs) {
	gen, b := f.Gen+1, plainBytes(f.Dir)
	acts := []api.Act{{Sync: true}}
	for i := 0; i*api.Block < len(b); i++ {
		block := make([]byte, api.Block)
		copy(block, b[i*api.Block:])
		acts = append(acts, api.Act{Put: api.Put{N: areaOf(gen) + i, Data: block}})
	}
	acts = append(acts, api.Act{Sync: true}, api.Act{Put: api.Put{N: slotOf(gen), Data: plainSuper(gen, len(b))}}, api.Act{Sync: true})
	out := api.Fs{Disk: api.Disk{Data: synced(f.Disk)}, Gen: gen, Dir: f.Dir, Kept: f.Dir}
	out.Disk.Done = slices.Concat(f.Disk.Done, acts)
	for _, a := range acts {
		if !a.Sync {
			set(out, a.Put.N, a.Put.Data)
		}
	}
	return acts, out
}

func TestSync(t *testing.T) { // P6.4: the blocks last, the directory is not committed by it
	f := spoken()
	want := f
	want.Disk = api.Disk{Data: synced(f.Disk), Done: append(slices.Clone(f.Disk.Done), api.Act{Sync: true})}
	g, e := fs.Sync(f)
	wantFiles(t, "Sync", g, e, want)
	wantGet(t, g, "c", 0, full(3), api.OK)
	wantFree(t, "Sync", g, 22)
	again := want
	again.Disk.Done = append(slices.Clone(want.Disk.Done), api.Act{Sync: true})
	g, e = fs.Sync(g)
	wantFiles(t, "Sync, once more", g, e, again)
}

func TestSyncRefused(t *testing.T) { // P6.4: dev.Sync's error
	f := spoken()
	f.Disk.Done = acts(maxActs)
	g, e := fs.Sync(f)
	wantRefused(t, "Sync, so much was done", g, e, api.ErrFull)
	f.Disk.Done, f.Disk.Wait = acts(maxActs-1), puts(maxActs, 40)
	g = must(t)(fs.Sync(f))
	if len(g.Disk.Done) != maxActs || len(g.Disk.Wait) != 0 {
		t.Errorf("Sync: %d acts, %d waits", len(g.Disk.Done), len(g.Disk.Wait))
	}
}

func TestClear(t *testing.T) { // P6.4: nothing was done, else as it is
	f := spoken()
	want := f
	want.Disk.Done = nil
	g, e := fs.Clear(f)
	wantFiles(t, "Clear", g, e, want)
	g, e = fs.Clear(g)
	wantFiles(t, "Clear, once more", g, e, want)
	f.Disk.Done, f.Disk.Wait = acts(maxActs), puts(maxActs, 40)
	want.Disk.Wait = f.Disk.Wait
	g, e = fs.Clear(f)
	wantFiles(t, "Clear, so much was done", g, e, want)
}

// commits are files to commit: of even and odd gens, directories of one block and of more, to the last byte.
func commits() map[string]api.Fs {
	out := map[string]api.Fs{
		"spoken":                 spoken(),
		"nothing to commit":      base(),
		"no files":               laid(64, 1, api.Dir{}),
		"no files, from some":    withDir(base(), api.Dir{}),
		"files, from none":       withDir(laid(64, 7, api.Dir{}), base().Dir),
		"of an odd gen":          withDir(laid(64, 3, base().Dir), api.Dir{}),
		"to the greatest gen":    withDir(laid(64, greatest-1, base().Dir), dir(file("x", 63, 1))),
		"ahead of that":          withDir(laid(64, greatest-2, base().Dir), dir(file("x", 63, 1))),
		"gens of many bytes":     laid(64, 0x01020304, base().Dir),
		"the gen 2^31 - 1":       laid(64, 1<<31-1, base().Dir),
		"the least disk":         withDir(laid(35, 1, api.Dir{}), dir(file("a", 34, 1))),
		"the greatest disk":      withDir(laid(max, 1, api.Dir{}), dir(file("a", 34, max-34))),
		"fewer blocks than were": withDir(laid(max, 2, sized(dirRoom)), many(2)),
		"all 16 blocks":          withDir(laid(max, 2, many(3)), sized(dirRoom)),
		"all 16 but a byte":      withDir(laid(max, 3, many(3)), sized(dirRoom-1)),
		"all 16, again":          laid(max, 4, sized(dirRoom)),
		"40 files":               withDir(laid(80, 2, api.Dir{}), many(40)),
	}
	old := base() // bytes of an earlier directory stand where the next one's are written
	set(old, 18, bytes.Repeat([]byte{9}, 16*api.Block))
	out["over old bytes"] = withDir(old, dir(file("q", 63, 1)))
	for _, size := range []int{127, 128, 129, 255, 256, 257} {
		out["a directory of "+strconv.Itoa(size)+" bytes"] = withDir(laid(80, 2, api.Dir{}), ofBytes(size))
	}
	return out
}

// ofBytes is a directory of just so many bytes, 6 or more: each of its files takes 4 bytes and its name's.
func ofBytes(n int) api.Dir {
	var d api.Dir
	for rest := n - 1; rest > 0; {
		size := min(rest, 20)
		if more := rest - size; more > 0 && more < 5 {
			size -= 5 // so that a name is left for the last one
		}
		i := len(d.Files)
		d.Files = append(d.Files, file(strings.Repeat(string(rune('a'+i)), size-4), first+i, 1))
		rest -= size
	}
	return d
}

func TestOfBytes(t *testing.T) { // the edges of a block would not be met by other directories
	for n := 6; n < 400; n++ {
		if got := len(plainBytes(ofBytes(n))); got != n {
			t.Fatalf("a directory of %d bytes has %d", n, got)
		}
	}
}

func TestCommit(t *testing.T) { // P6.4: what is done, in which order, and what stands behind it
	for name, f := range commits() {
		if e := fs.Check(f); e != api.OK {
			t.Fatalf("%s: the files of the test may not be: error %d", name, e)
		}
		_, want := committed(f)
		g, e := fs.Commit(f)
		wantFiles(t, "Commit, "+name, g, e, want)
		wantNames(t, g, namesOf(f.Dir)...)
	}
}

func namesOf(d api.Dir) []string {
	var l []string
	for _, x := range d.Files {
		l = append(l, x.Name)
	}
	return l
}

func TestCommitsByTurns(t *testing.T) { // P6.4: gen by gen, each into the other's slot and blocks
	f := must(t)(fs.Format(64))
	for i := range 9 {
		f = must(t)(fs.Create(f, string(rune('a'+i)), 1+i%3))
		_, want := committed(f)
		g, e := fs.Commit(f)
		wantFiles(t, "a commit more", g, e, want)
		if g.Gen != uint32(i+2) {
			t.Errorf("the gen %d behind %d commits", g.Gen, i+1)
		}
		f = g
	}
}

func TestCommitAtTheLastGen(t *testing.T) { // P6.4: ErrFull at 2^32 - 1
	f := laid(64, greatest-1, base().Dir)
	f = must(t)(fs.Commit(f))
	if f.Gen != greatest {
		t.Fatalf("the gen %d", f.Gen)
	}
	for name, g := range map[string]api.Fs{
		"as it was made": f, "laid": laid(64, greatest, api.Dir{}), "with another directory": withDir(f, api.Dir{}),
	} {
		x, e := fs.Commit(g)
		wantRefused(t, "Commit, "+name, x, e, api.ErrFull)
		must(t)(fs.Sync(g))
		must(t)(fs.Create(g, "z", 1))
	}
}

func TestCommitWhereActsEnd(t *testing.T) { // P6.4: an error of dev.Write or Sync, at each act of a commit
	for name, f := range map[string]api.Fs{
		"one block": withDir(base(), dir(file("q", 50, 1))), "two blocks": withDir(laid(80, 2, api.Dir{}), many(40)),
		"16 blocks": withDir(laid(max, 2, api.Dir{}), sized(dirRoom)),
	} {
		l, _ := committed(f)
		for left := range len(l) {
			f.Disk.Done = acts(maxActs - left)
			g, e := fs.Commit(f)
			wantRefused(t, "Commit, "+name, g, e, api.ErrFull)
		}
		f.Disk.Done = acts(maxActs - len(l))
		_, want := committed(f)
		g, e := fs.Commit(f)
		wantFiles(t, "Commit, "+name+", to the last act", g, e, want)
	}
	f := spoken()
	f.Disk.Wait = puts(maxActs, 40) // a sync stands ahead of the writes
	_, want := committed(f)
	g, e := fs.Commit(f)
	wantFiles(t, "Commit, so much waits", g, e, want)
}
