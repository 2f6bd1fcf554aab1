package fs

import (
	"slices"

	"millhand/api"
	"millhand/dev"
	"millhand/files"
	"millhand/room"
	"millhand/super"
)

// mayBe looks for the committed directory in the disk's data, since only what lasts is found again. (super.Latest refuses a disk without blocks for files.)
func mayBe(f api.Fs) bool {
	gen, size, e := super.Latest(f.Disk)
	if e != api.OK || gen != f.Gen || slices.ContainsFunc(f.Disk.Wait, belowFirst) {
		return false
	}
	_, area := super.Where(gen)
	blocks := many(f)
	kept, e := files.Read(f.Disk.Data[area*api.Block:][:size], blocks)
	return e == api.OK && files.Same(kept, f.Kept) && files.Check(f.Dir, blocks) == api.OK
}

// belowFirst tells whether a write is into a block that no file has.
func belowFirst(p api.Put) bool { return p.N < api.First }

// many is how many blocks the disk has, where it may be.
func many(f api.Fs) int {
	n, _ := dev.Many(f.Disk)
	return n
}

// used are the extents that can't be given: those of files, and those of files as they were committed, which come back if power fails ahead of the next commit. Of files that may be, no directory is refused.
func used(f api.Fs) []api.Extent {
	now, _ := files.Used(f.Dir)
	kept, _ := files.Used(f.Kept)
	return slices.Concat(now, kept)
}

// turned is files with another directory, on the disk as it is.
func turned(f api.Fs, dir func() (api.Dir, api.Errno)) (api.Fs, api.Errno) {
	w := begin(f)
	return w.then(func() (e api.Errno) {
		w.f.Dir, e = dir()
		return e
	}).then(w.stay).end()
}

// create is the directory with a file more, of the first blocks that can be given.
func create(f api.Fs, name string, blocks int) (api.Dir, api.Errno) {
	_, e := files.Find(f.Dir, name)
	if e == api.OK {
		return api.Dir{}, api.ErrThere
	}
	if e != api.ErrNone {
		return api.Dir{}, e
	}
	l, e := room.Take(api.First, many(f), used(f), blocks)
	if e != api.OK {
		return api.Dir{}, e
	}
	return files.Create(f.Dir, name, l, many(f))
}

// blocksOf are the blocks of a file, in order.
func blocksOf(f api.Fs, name string) ([]int, api.Errno) {
	x, e := files.Find(f.Dir, name)
	if e != api.OK {
		return nil, e
	}
	return room.Blocks(x.Extents)
}

// blockAt is the block of the disk that is a file's i-th.
func blockAt(f api.Fs, name string, i int) (int, api.Errno) {
	l, e := blocksOf(f, name)
	if e != api.OK {
		return 0, e
	}
	if i < 0 || i >= len(l) {
		return 0, api.ErrArg
	}
	return l[i], api.OK
}
