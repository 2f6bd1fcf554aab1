package files_test

import (
	"bytes"
	"slices"
	"testing"

	"millhand/api"
	"millhand/files"
)

// markExtent, markFile and markByte stand in the room behind lists, so that a write into it is seen.
var (
	markExtent = api.Extent{At: -77, Many: -78}
	markFile   = api.File{Name: "mark"}
)

const markByte = 201

// copied is a directory of its own memory.
func copied(d api.Dir) api.Dir {
	out := api.Dir{Files: slices.Clone(d.Files)}
	for i := range out.Files {
		out.Files[i].Extents = slices.Clone(out.Files[i].Extents)
	}
	return out
}

// spared is a copy of a list with room behind it that is filled.
func spared[T any](l []T, mark T) []T {
	return append(slices.Clone(l), mark, mark, mark)[: len(l) : len(l)+3]
}

// sparedDir is a copy of a directory with room behind all its lists that is filled.
func sparedDir(d api.Dir) api.Dir {
	out := api.Dir{Files: spared(d.Files, markFile)}
	for i := range out.Files {
		out.Files[i].Extents = spared(out.Files[i].Extents, markExtent)
	}
	return out
}

// unchangedExtents tells whether what spared made of l is as it was, the room behind it too.
func unchangedExtents(x, l []api.Extent) bool {
	return slices.Equal(x[:cap(x)], append(slices.Clone(l), markExtent, markExtent, markExtent))
}

// unchangedDir tells whether what sparedDir made of d is as it was, the room behind it too.
func unchangedDir(x, d api.Dir) bool {
	if len(x.Files) != len(d.Files) || cap(x.Files) != len(d.Files)+3 {
		return false
	}
	for i, f := range x.Files {
		if f.Name != d.Files[i].Name || !unchangedExtents(f.Extents, d.Files[i].Extents) {
			return false
		}
	}
	for _, f := range x.Files[len(x.Files):cap(x.Files)] {
		if f.Name != markFile.Name || f.Extents != nil {
			return false
		}
	}
	return true
}

// spoil writes over a list, and over the room behind it.
func spoil[T any](l []T, x T) {
	l = l[:cap(l)]
	for i := range l {
		l[i] = x
	}
}

// spoilDir writes over a directory's lists, and over the room behind them.
func spoilDir(d api.Dir) {
	for _, f := range d.Files {
		spoil(f.Extents, markExtent)
	}
	spoil(d.Files, markFile)
}

// dirs are those that are handed in: good ones, and ones that are refused.
func dirs() []api.Dir {
	return []api.Dir{
		{}, dir(file("a", 34, 2)), dir(file("a", 34, 2), file("b", 36, 1, 40, 2)), dir(file("b", 40, 1), file("c", 50, 3), file("d", 34, 1)),
		dir(file("b", 40, 1), file("a", 41, 1)), dir(file("a", 40, 1), file("b", 40, 1)), dir(file("a")), dir(file("", 40, 1)),
		many(api.MaxFiles), many(api.MaxFiles + 1), sized(room), sized(room + 1),
	}
}

func TestArgumentsAreOnlyRead(t *testing.T) { // P5.5: neither lists nor the room behind them are written to
	for _, d := range dirs() {
		x, y := sparedDir(d), sparedDir(d)
		for _, l := range [][]api.Extent{nil, of(60, 1), of(62, 1, 60, 2, 64, 1), of(34, 1), of(60, 2, 61, 1), of(64, 1, 0, 0), ones(900, 65), ones(900, 64)} {
			z := spared(l, markExtent)
			for _, name := range []string{"b", "c", "q", "aa", "f07", ""} {
				files.Create(x, name, z, max)
				files.Create(x, name, z, 65)
			}
			if !unchangedExtents(z, l) {
				t.Errorf("Create changed the extents %v", l)
			}
		}
		for name, call := range map[string]func(){
			"Check":  func() { files.Check(x, max); files.Check(x, 40); files.Check(x, 0) },
			"Same":   func() { files.Same(x, y); files.Same(y, dir(file("a", 34, 2))) },
			"Find":   func() { files.Find(x, "a"); files.Find(x, "q"); files.Find(x, "") },
			"Delete": func() { files.Delete(x, "a"); files.Delete(x, "b"); files.Delete(x, "f00"); files.Delete(x, "q") },
			"Rename": func() {
				for _, from := range []string{"a", "b", "d", "f00", "q", ""} {
					for _, to := range []string{"a", "b", "d", "f39", "zzzz", "0", ""} {
						files.Rename(x, from, to)
					}
				}
			},
			"Used":  func() { files.Used(x) },
			"Write": func() { files.Write(x, max); files.Write(x, 0) },
		} {
			call()
			if !unchangedDir(x, d) || !unchangedDir(y, d) {
				t.Errorf("%s changed %v", name, d)
				x, y = sparedDir(d), sparedDir(d)
			}
		}
		if !unchangedDir(x, d) {
			t.Errorf("Create changed %v", d)
		}
	}
}

func TestBytesAreOnlyRead(t *testing.T) { // P5.5
	for _, d := range dirs() {
		b := plainBytes(d)
		for _, l := range [][]byte{b, append(slices.Clone(b), 0), b[:len(b)-1]} {
			x := spared(l, markByte)
			files.Read(x, max)
			files.Read(x, 40)
			files.Read(x, 0)
			if !bytes.Equal(x[:cap(x)], append(slices.Clone(l), markByte, markByte, markByte)) {
				t.Errorf("Read changed %v", l)
			}
		}
	}
}

func TestAnswersAreNewMemory(t *testing.T) { // P5.5: neither the arguments', nor another answer's
	for _, d := range dirs() {
		x := sparedDir(d)
		l := of(4000, 2, 4010, 1)
		z := spared(l, markExtent)
		turns := map[string]func() api.Dir{
			"Create, first":   func() api.Dir { a, _ := files.Create(x, "0", z, max); return a },
			"Create, last":    func() api.Dir { a, _ := files.Create(x, "z", z, max); return a },
			"Delete":          func() api.Dir { a, _ := files.Delete(x, "b"); return a },
			"Delete of all":   func() api.Dir { a, _ := files.Delete(x, "a"); return a },
			"Rename, last":    func() api.Dir { a, _ := files.Rename(x, "b", "z"); return a },
			"Rename, first":   func() api.Dir { a, _ := files.Rename(x, "b", "0"); return a },
			"Rename onto":     func() api.Dir { a, _ := files.Rename(x, "b", "a"); return a },
			"Rename to it":    func() api.Dir { a, _ := files.Rename(x, "b", "b"); return a },
			"Rename, of many": func() api.Dir { a, _ := files.Rename(x, "f07", "f21"); return a },
			"Read":            func() api.Dir { a, _ := files.Read(plainBytes(d), max); return a },
		}
		for name, turn := range turns {
			one, two := turn(), turn()
			was := copied(two)
			spoilDir(one)
			if !same(two, was) || !unchangedDir(x, d) || !unchangedExtents(z, l) {
				t.Errorf("%s of %v: the answer is not new memory", name, d)
			}
		}
	}
}

func TestListsOfAnAnswerShareNone(t *testing.T) { // P5.5: no two lists of one answer, their spare room neither
	for _, d := range []api.Dir{dir(file("a", 34, 2), file("b", 36, 1, 40, 2)), sized(1990), many(39)} {
		b := plainBytes(d)
		created, _ := files.Create(d, "0", of(4000, 2, 4010, 1), max)
		deleted, _ := files.Delete(d, d.Files[0].Name)
		renamed, _ := files.Rename(d, d.Files[0].Name, "z")
		read, _ := files.Read(b, max)
		for name, a := range map[string]api.Dir{"Create": created, "Delete": deleted, "Rename": renamed, "Read": read} {
			for i, f := range a.Files {
				was := copied(a)
				spoil(f.Extents, markExtent)
				copy(f.Extents, was.Files[i].Extents)
				if !same(a, was) {
					t.Errorf("%s: the extents of %q share memory with others", name, f.Name)
				}
			}
		}
	}
}

func TestSingleAnswersAreNewMemory(t *testing.T) { // P5.5: Find's, Used's and Write's
	for _, d := range []api.Dir{dir(file("a", 34, 2)), dir(file("a", 34, 2), file("b", 36, 1, 40, 2))} {
		x := sparedDir(d)
		found, _ := files.Find(x, "a")
		again, _ := files.Find(x, "a")
		spoil(found.Extents, markExtent)
		used, _ := files.Used(x)
		same, _ := files.Used(x)
		want := slices.Clone(same)
		spoil(used, markExtent)
		if !slices.Equal(again.Extents, of(34, 2)) || !slices.Equal(same, want) || !unchangedDir(x, d) {
			t.Errorf("%v: what is found or used is not new memory", d)
		}
		b, _ := files.Write(x, 64)
		c, _ := files.Write(x, 64)
		spoil(b, markByte)
		if !bytes.Equal(c, plainBytes(d)) {
			t.Errorf("%v: the bytes are not new memory", d)
		}
	}
}

func TestNothingIsKept(t *testing.T) { // P5.5: what is handed in may change behind the call
	d := dir(file("a", 34, 2), file("b", 36, 1, 40, 2))
	x, l, b := copied(d), of(50, 1), plainBytes(d)
	created, _ := files.Create(x, "c", l, 64)
	renamed, _ := files.Rename(x, "a", "z")
	deleted, _ := files.Delete(x, "a")
	found, _ := files.Find(x, "b")
	used, _ := files.Used(x)
	read, _ := files.Read(b, 64)
	spoilDir(x)
	spoil(l, markExtent)
	spoil(b, markByte)
	wantDir(t, "Create", created, api.OK, dir(file("a", 34, 2), file("b", 36, 1, 40, 2), file("c", 50, 1)), api.OK)
	wantDir(t, "Rename", renamed, api.OK, dir(file("b", 36, 1, 40, 2), file("z", 34, 2)), api.OK)
	wantDir(t, "Delete", deleted, api.OK, dir(file("b", 36, 1, 40, 2)), api.OK)
	wantDir(t, "Read", read, api.OK, d, api.OK)
	if found.Name != "b" || !slices.Equal(found.Extents, of(36, 1, 40, 2)) || !slices.Equal(used, of(34, 2, 36, 1, 40, 2)) {
		t.Errorf("what is found or used is the argument's memory: %v, %v", found, used)
	}
}

func TestAnswersHangOnArgumentsAlone(t *testing.T) { // R2
	d := dir(file("a", 34, 2))
	for range 3 {
		files.Create(many(40), "b", of(36, 1), 64)
		files.Read([]byte{1, 1, 'b', 1, 36}, 64)
		files.Delete(d, "a")
		files.Rename(d, "a", "b")
		got, e := files.Create(d, "b", of(36, 1, 40, 2), 64)
		wantDir(t, "Create, once more", got, e, dir(file("a", 34, 2), file("b", 36, 1, 40, 2)), api.OK)
		wantFind(t, d, "a", of(34, 2), api.OK)
		wantFind(t, d, "b", nil, api.ErrNone)
	}
}
