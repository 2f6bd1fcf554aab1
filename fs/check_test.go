package fs_test

import (
	"math"
	"slices"
	"testing"

	"millhand/api"
	"millhand/fs"
)

func TestFormat(t *testing.T) { // P6.1: First blocks and one more, MaxBlocks and one more
	for _, c := range []struct {
		blocks int
		want   api.Errno
	}{
		{math.MinInt, api.ErrDisk}, {-4096, api.ErrDisk}, {-35, api.ErrDisk}, {-1, api.ErrDisk}, {0, api.ErrDisk},
		{1, api.ErrArg}, {2, api.ErrArg}, {18, api.ErrArg}, {first - 1, api.ErrArg}, {first, api.ErrArg},
		{first + 1, api.OK}, {first + 2, api.OK}, {64, api.OK}, {max - 1, api.OK}, {max, api.OK},
		{max + 1, api.ErrDisk}, {1<<32 + 64, api.ErrDisk}, {math.MaxInt, api.ErrDisk},
	} {
		f, e := fs.Format(c.blocks)
		if c.want != api.OK {
			wantRefused(t, "Format", f, e, c.want)
			continue
		}
		want := api.Fs{Disk: api.Disk{Data: make([]byte, c.blocks*api.Block)}, Gen: 1}
		copy(want.Disk.Data[api.Block:], []byte{1, 0, 0, 0, 1}) // gen 1, whose directory is one byte, 0, in block 18
		wantFiles(t, "Format", f, e, want)
		wantFree(t, "Format", f, c.blocks-first)
		wantNames(t, f)
	}
}

// base is files that may be, which the cases below change: a directory of two files is committed.
func base() api.Fs {
	return laid(64, 4, dir(file("a", 34, 2), file("b", 36, 1, 40, 2)))
}

func TestCheckOfWhatMayBe(t *testing.T) { // P6.1
	for name, change := range map[string]func(f *api.Fs){
		"as laid":                       func(f *api.Fs) {},
		"a write of First waits":        func(f *api.Fs) { f.Disk.Wait = puts(1, first) },
		"a write of the last one waits": func(f *api.Fs) { f.Disk.Wait = puts(3, 63) },
		"writes below First were done": func(f *api.Fs) {
			f.Disk.Done = []api.Act{{Put: puts(1, 0)[0]}, {Put: puts(1, 33)[0]}, {Sync: true}}
		},
		"so much waits as may":           func(f *api.Fs) { f.Disk.Wait = puts(maxActs, first) },
		"so much was done as may":        func(f *api.Fs) { f.Disk.Done = acts(maxActs) },
		"the gen ahead in its slot":      func(f *api.Fs) { set(*f, 1, plainSuper(3, 7)) },
		"another gen far ahead":          func(f *api.Fs) { set(*f, 1, plainSuper(1, 2048)) },
		"a later one in the wrong slot":  func(f *api.Fs) { set(*f, 1, plainSuper(6, 1)) },
		"no superblock in the other":     func(f *api.Fs) { set(*f, 1, full(255)) },
		"bytes in the other directory":   func(f *api.Fs) { set(*f, 18, full(255)); set(*f, 33, full(1)) },
		"bytes behind the directory's":   func(f *api.Fs) { set(*f, 3, full(255)); f.Disk.Data[3*128-1] = 9 },
		"bytes in files' blocks":         func(f *api.Fs) { set(*f, 34, full(255)); set(*f, 63, full(1)) },
		"a directory without files":      func(f *api.Fs) { f.Dir = api.Dir{} },
		"one of an empty list":           func(f *api.Fs) { f.Dir = api.Dir{Files: []api.File{}} },
		"a file more":                    func(f *api.Fs) { f.Dir.Files = append(f.Dir.Files, file("c", 63, 1)) },
		"a file fewer":                   func(f *api.Fs) { f.Dir.Files = f.Dir.Files[:1] },
		"another name":                   func(f *api.Fs) { f.Dir.Files[0].Name = "aa" },
		"blocks of another file":         func(f *api.Fs) { f.Dir = dir(file("x", 35, 2), file("y", 40, 1)) },
		"a directory of MaxFiles":        func(f *api.Fs) { *f = laid(80, 4, many(40)) },
		"a directory of 2048 bytes":      func(f *api.Fs) { *f = laid(max, 4, sized(dirRoom)) },
		"2048 bytes in the other":        func(f *api.Fs) { *f = laid(max, 5, sized(dirRoom)) },
		"no files committed":             func(f *api.Fs) { *f = laid(64, 4, api.Dir{}) },
		"none committed, an empty list":  func(f *api.Fs) { *f = laid(64, 4, api.Dir{}); f.Kept.Files = []api.File{} },
		"none committed, but some made":  func(f *api.Fs) { *f = laid(64, 4, api.Dir{}); f.Dir = dir(file("q", 34, 30)) },
		"the gen 1":                      func(f *api.Fs) { *f = laid(64, 1, f.Dir) },
		"the gen 2":                      func(f *api.Fs) { *f = laid(64, 2, f.Dir) },
		"the greatest gen":               func(f *api.Fs) { *f = laid(64, greatest, f.Dir) },
		"the greatest gen, and the next": func(f *api.Fs) { *f = laid(64, greatest, f.Dir); set(*f, 0, plainSuper(greatest-1, 1)) },
		"one block for files":            func(f *api.Fs) { *f = laid(35, 1, dir(file("a", 34, 1))) },
		"MaxBlocks":                      func(f *api.Fs) { *f = laid(max, 1, dir(file("a", 34, max-34))) },
		"as few blocks as the files ask": func(f *api.Fs) { f.Disk.Data = f.Disk.Data[:42*128] },
	} {
		f := base()
		change(&f)
		if e := fs.Check(f); e != api.OK {
			t.Errorf("%s: error %d", name, e)
		}
	}
}

// bad are files that may not be, of every kind.
func bad() map[string]api.Fs {
	out := map[string]api.Fs{"noughts": {}}
	for name, change := range map[string]func(f *api.Fs){
		"no disk":                            func(f *api.Fs) { f.Disk = api.Disk{} },
		"a disk of one block":                func(f *api.Fs) { f.Disk.Data = f.Disk.Data[:128] },
		"a disk of two blocks":               func(f *api.Fs) { f.Disk.Data = f.Disk.Data[:256] },
		"a disk of First blocks":             func(f *api.Fs) { f.Disk.Data = f.Disk.Data[:34*128] },
		"one of First, without files":        func(f *api.Fs) { *f = laid(34, 4, api.Dir{}) },
		"one of First, of the gen 1":         func(f *api.Fs) { *f = laid(34, 1, api.Dir{}) },
		"a byte more than whole blocks":      func(f *api.Fs) { f.Disk.Data = append(f.Disk.Data, 0) },
		"a byte less than whole blocks":      func(f *api.Fs) { f.Disk.Data = f.Disk.Data[:64*128-1] },
		"a block more than MaxBlocks":        func(f *api.Fs) { *f = laid(max+1, 4, f.Dir) },
		"one wait more than may be":          func(f *api.Fs) { f.Disk.Wait = puts(maxActs+1, first) },
		"one act more than may be":           func(f *api.Fs) { f.Disk.Done = acts(maxActs + 1) },
		"a wait beyond the disk":             func(f *api.Fs) { f.Disk.Wait = puts(1, 64) },
		"a wait of 127 bytes":                func(f *api.Fs) { f.Disk.Wait = []api.Put{{N: 34, Data: full(1)[:127]}} },
		"a bad act":                          func(f *api.Fs) { f.Disk.Done = []api.Act{{Sync: true, Put: api.Put{N: 1}}} },
		"a wait into block 0":                func(f *api.Fs) { f.Disk.Wait = puts(1, 0) },
		"a wait into block 1":                func(f *api.Fs) { f.Disk.Wait = puts(1, 1) },
		"a wait into its directory":          func(f *api.Fs) { f.Disk.Wait = puts(1, 2) },
		"a wait into the other one":          func(f *api.Fs) { f.Disk.Wait = puts(1, 18) },
		"a wait into the last below First":   func(f *api.Fs) { f.Disk.Wait = puts(1, 33) },
		"a wait of what stands there":        func(f *api.Fs) { f.Disk.Wait = []api.Put{{N: 0, Data: f.Disk.Data[:128]}} },
		"a wait below First behind others":   func(f *api.Fs) { f.Disk.Wait = append(puts(3, 40), puts(1, 33)...) },
		"a wait below First ahead of others": func(f *api.Fs) { f.Disk.Wait = append(puts(1, 33), puts(3, 40)...) },
		"the gen 0":                          func(f *api.Fs) { f.Gen = 0 },
		"one gen less":                       func(f *api.Fs) { f.Gen-- },
		"one gen more":                       func(f *api.Fs) { f.Gen++ },
		"two gens more, of the same slot":    func(f *api.Fs) { f.Gen += 2 },
		"the greatest gen":                   func(f *api.Fs) { f.Gen = greatest },
		"the gen ahead, which lasts, too":    func(f *api.Fs) { set(*f, 1, plainSuper(3, 1)); f.Gen, f.Kept = 3, api.Dir{} },
		"a later superblock":                 func(f *api.Fs) { set(*f, 1, plainSuper(5, 1)) },
		"a far later superblock":             func(f *api.Fs) { set(*f, 1, plainSuper(greatest, 1)) },
		"no superblock":                      func(f *api.Fs) { set(*f, 0, full(0)) },
		"a superblock in the wrong slot":     func(f *api.Fs) { set(*f, 1, f.Disk.Data[:128]); set(*f, 0, full(0)) },
		"a superblock with a byte behind":    func(f *api.Fs) { f.Disk.Data[127] = 1 },
		"a superblock that waits":            func(f *api.Fs) { f.Disk.Wait = []api.Put{{N: 1, Data: plainSuper(5, 1)}}; f.Gen = 5 },
		"a size of one less":                 func(f *api.Fs) { f.Disk.Data[4]-- },
		"a size of one more":                 func(f *api.Fs) { f.Disk.Data[4]++ },
		"a size of 0":                        func(f *api.Fs) { f.Disk.Data[4] = 0 },
		"a size of 0, and no files":          func(f *api.Fs) { *f = laid(64, 4, api.Dir{}); f.Disk.Data[4] = 0 },
		"a size of 2048":                     func(f *api.Fs) { set(*f, 0, plainSuper(4, 2048)) },
		"a size of 2049":                     func(f *api.Fs) { set(*f, 0, plainSuper(4, 2049)) },
		"another first byte":                 func(f *api.Fs) { f.Disk.Data[2*128]++ },
		"another last byte":                  func(f *api.Fs) { f.Disk.Data[2*128+len(plainBytes(f.Kept))-1]++ },
		"noughts in the directory":           func(f *api.Fs) { set(*f, 2, full(0)) },
		"the directory in the other one":     func(f *api.Fs) { set(*f, 18, f.Disk.Data[256:384]); set(*f, 2, full(0)) },
		"the directory waits": func(f *api.Fs) {
			f.Disk.Wait = []api.Put{{N: 2, Data: slices.Clone(f.Disk.Data[256:384])}}
			set(*f, 2, full(0))
		},
		"bytes of a later block":              func(f *api.Fs) { *f = laid(80, 4, many(40)); f.Disk.Data[3*128]++ },
		"committed: none":                     func(f *api.Fs) { f.Kept = api.Dir{} },
		"committed: a file fewer":             func(f *api.Fs) { f.Kept.Files = f.Kept.Files[:1] },
		"committed: a file more":              func(f *api.Fs) { f.Kept.Files = append(f.Kept.Files, file("c", 50, 1)) },
		"committed: another name":             func(f *api.Fs) { f.Kept.Files[1].Name = "c" },
		"committed: another extent":           func(f *api.Fs) { f.Kept.Files[1].Extents[1].Many = 1 },
		"committed: extents the other way":    func(f *api.Fs) { slices.Reverse(f.Kept.Files[1].Extents) },
		"committed: files the other way":      func(f *api.Fs) { slices.Reverse(f.Kept.Files) },
		"committed: beyond the disk":          func(f *api.Fs) { *f = laid(64, 4, dir(file("a", 63, 2))); f.Dir = api.Dir{} },
		"committed: below First":              func(f *api.Fs) { *f = laid(64, 4, dir(file("a", 33, 1))); f.Dir = api.Dir{} },
		"committed: files that meet":          func(f *api.Fs) { *f = laid(64, 4, dir(file("a", 40, 2), file("b", 41, 1))); f.Dir = api.Dir{} },
		"committed: one file more than may":   func(f *api.Fs) { *f = laid(max, 4, many(41)); f.Dir = api.Dir{} },
		"committed: no name":                  func(f *api.Fs) { *f = laid(64, 4, dir(file("", 40, 1))); f.Dir = api.Dir{} },
		"directory: beyond the disk":          func(f *api.Fs) { f.Dir.Files[1].Extents[1] = api.Extent{At: 63, Many: 2} },
		"directory: the block behind it":      func(f *api.Fs) { f.Dir.Files[1].Extents[1] = api.Extent{At: 64, Many: 1} },
		"directory: the disk has fewer":       func(f *api.Fs) { *f = laid(41, 4, api.Dir{}); f.Dir = base().Dir },
		"directory: below First":              func(f *api.Fs) { f.Dir.Files[0].Extents[0].At = 33 },
		"directory: extents that meet":        func(f *api.Fs) { f.Dir.Files[0].Extents[0].Many = 3 },
		"directory: names that fall":          func(f *api.Fs) { f.Dir.Files[0].Name = "c" },
		"directory: a name twice":             func(f *api.Fs) { f.Dir.Files[0].Name = "b" },
		"directory: no name":                  func(f *api.Fs) { f.Dir.Files[0].Name = "" },
		"directory: a name of 17 bytes":       func(f *api.Fs) { f.Dir.Files[0].Name = "aaaaaaaaaaaaaaaaa" },
		"directory: a file without extents":   func(f *api.Fs) { f.Dir.Files[0].Extents = nil },
		"directory: no blocks":                func(f *api.Fs) { f.Dir.Files[0].Extents[0].Many = 0 },
		"directory: a sum that wraps":         func(f *api.Fs) { f.Dir.Files[0].Extents[0] = api.Extent{At: 40, Many: math.MaxInt} },
		"directory: one file more than may":   func(f *api.Fs) { *f = laid(80, 4, api.Dir{}); f.Dir = many(41) },
		"directory: one extent more than may": func(f *api.Fs) { *f = laid(max, 4, api.Dir{}); f.Dir = dir(api.File{Name: "a", Extents: ones(40, 65)}) },
		"directory: 2049 bytes":               func(f *api.Fs) { *f = laid(max, 4, api.Dir{}); f.Dir = sized(dirRoom + 1) },
	} {
		f := base()
		change(&f)
		out[name] = f
	}
	return out
}

func TestCheckOfWhatMayNotBe(t *testing.T) { // P6.1, and that error first of all calls, whatever else would be wrong
	for name, f := range bad() {
		if e := fs.Check(f); e != api.ErrBad {
			t.Errorf("Check of %s: error %d", name, e)
		}
		for call, do := range turns(full(1)) {
			g, e := do(f)
			wantRefused(t, call+" of "+name, g, e, api.ErrBad)
		}
		for _, file := range []string{"a", "c", ""} {
			wantSize(t, f, file, 0, api.ErrBad)
			wantGet(t, f, file, 0, nil, api.ErrBad)
			wantGet(t, f, file, -1, nil, api.ErrBad)
		}
		if l, e := fs.Names(f); l != nil || e != api.ErrBad {
			t.Errorf("Names of %s: %q, error %d", name, l, e)
		}
		if n, e := fs.Free(f); n != 0 || e != api.ErrBad {
			t.Errorf("Free of %s: %d, error %d", name, n, e)
		}
	}
}

// turns are calls of all kinds that answer files, with right and with wrong arguments; b is what is put.
func turns(b []byte) map[string]func(api.Fs) (api.Fs, api.Errno) {
	return map[string]func(api.Fs) (api.Fs, api.Errno){
		"Create":                func(f api.Fs) (api.Fs, api.Errno) { return fs.Create(f, "c", 3) },
		"Create, first":         func(f api.Fs) (api.Fs, api.Errno) { return fs.Create(f, "A", 1) },
		"Create, there":         func(f api.Fs) (api.Fs, api.Errno) { return fs.Create(f, "a", 0) },
		"Create, no name":       func(f api.Fs) (api.Fs, api.Errno) { return fs.Create(f, "", 0) },
		"Create, no blocks":     func(f api.Fs) (api.Fs, api.Errno) { return fs.Create(f, "c", 0) },
		"Create, no room":       func(f api.Fs) (api.Fs, api.Errno) { return fs.Create(f, "c", max) },
		"Delete":                func(f api.Fs) (api.Fs, api.Errno) { return fs.Delete(f, "a") },
		"Delete, none":          func(f api.Fs) (api.Fs, api.Errno) { return fs.Delete(f, "c") },
		"Delete, no name":       func(f api.Fs) (api.Fs, api.Errno) { return fs.Delete(f, "") },
		"Rename":                func(f api.Fs) (api.Fs, api.Errno) { return fs.Rename(f, "a", "c") },
		"Rename onto":           func(f api.Fs) (api.Fs, api.Errno) { return fs.Rename(f, "a", "b") },
		"Rename to itself":      func(f api.Fs) (api.Fs, api.Errno) { return fs.Rename(f, "a", "a") },
		"Rename, none":          func(f api.Fs) (api.Fs, api.Errno) { return fs.Rename(f, "c", "a") },
		"Rename, no name":       func(f api.Fs) (api.Fs, api.Errno) { return fs.Rename(f, "a", "") },
		"Put":                   func(f api.Fs) (api.Fs, api.Errno) { return fs.Put(f, "a", 1, b) },
		"Put, a later extent":   func(f api.Fs) (api.Fs, api.Errno) { return fs.Put(f, "b", 2, b) },
		"Put, none":             func(f api.Fs) (api.Fs, api.Errno) { return fs.Put(f, "c", 0, b) },
		"Put, beyond":           func(f api.Fs) (api.Fs, api.Errno) { return fs.Put(f, "a", 2, b) },
		"Put, too short":        func(f api.Fs) (api.Fs, api.Errno) { return fs.Put(f, "a", 0, b[:127]) },
		"Sync":                  fs.Sync,
		"Commit":                fs.Commit,
		"Clear":                 fs.Clear,
		"Commit of a file more": func(f api.Fs) (api.Fs, api.Errno) { return then(f, fs.Commit)(fs.Create(f, "c", 3)) },
	}
}

// then does a call to what another one answered, or to what was there ahead of it, if that had an error.
func then(f api.Fs, do func(api.Fs) (api.Fs, api.Errno)) func(api.Fs, api.Errno) (api.Fs, api.Errno) {
	return func(g api.Fs, e api.Errno) (api.Fs, api.Errno) {
		if e != api.OK {
			return do(f)
		}
		return do(g)
	}
}
