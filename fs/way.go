package fs

import (
	"math"
	"slices"

	"millhand/api"
	"millhand/dev"
	"millhand/files"
	"millhand/super"
)

// way is files on a disk on the way to what is answered: steps turn them one behind the other, and behind the first one with an error none is done.
type way struct {
	f   api.Fs
	e   api.Errno
	dir []byte // the directory's bytes, while they are committed
}

// begin is the way from files that may be.
func begin(f api.Fs) *way {
	return &way{f: f, e: Check(f)}
}

func (w *way) then(step func() api.Errno) *way {
	if w.e == api.OK {
		w.e = step()
	}
	return w
}

// end is what the steps came to. The directories are copied here, since a commit makes one of both; the disk is new by any step that turns it.
func (w *way) end() (api.Fs, api.Errno) {
	if w.e != api.OK {
		return api.Fs{}, w.e
	}
	return api.Fs{Disk: w.f.Disk, Gen: w.f.Gen, Dir: copyDir(w.f.Dir), Kept: copyDir(w.f.Kept)}, api.OK
}

// commit syncs ahead of the superblock, so that it never lasts ahead of the directory that it tells, and ahead of the directory, so that this tells of no block whose bytes may still be lost.
func (w *way) commit() *way {
	return w.then(w.next).then(w.sync).then(w.writeDir).then(w.sync).then(w.writeSuper).then(w.sync).then(w.keep)
}

// next goes on to the next gen, and tells its directory's bytes.
func (w *way) next() (e api.Errno) {
	if w.f.Gen == math.MaxUint32 {
		return api.ErrFull
	}
	w.f.Gen++
	w.dir, e = files.Write(w.f.Dir, many(w.f))
	return e
}

func (w *way) sync() (e api.Errno) {
	w.f.Disk, e = dev.Sync(w.f.Disk)
	return e
}

func (w *way) clear() (e api.Errno) {
	w.f.Disk, e = dev.Clear(w.f.Disk)
	return e
}

// stay leaves the disk as it is, in memory of its own.
func (w *way) stay() (e api.Errno) {
	w.f.Disk, e = dev.Do(w.f.Disk, nil, 0)
	return e
}

// write writes a block of the disk.
func (w *way) write(n int, b []byte) (e api.Errno) {
	w.f.Disk, e = dev.Write(w.f.Disk, n, b)
	return e
}

// put writes a block of a file.
func (w *way) put(name string, i int, b []byte) api.Errno {
	n, e := blockAt(w.f, name, i)
	if e != api.OK {
		return e
	}
	return w.write(n, b)
}

// writeDir leaves alone the directory of the gen ahead, which is found until the superblock lasts.
func (w *way) writeDir() api.Errno {
	_, area := super.Where(w.f.Gen)
	for i, b := range whole(w.dir) {
		if e := w.write(area+i, b); e != api.OK {
			return e
		}
	}
	return api.OK
}

func (w *way) writeSuper() api.Errno {
	b, e := super.Block(w.f.Gen, len(w.dir))
	if e != api.OK {
		return e
	}
	slot, _ := super.Where(w.f.Gen)
	return w.write(slot, b)
}

func (w *way) keep() api.Errno {
	w.f.Kept = w.f.Dir
	return api.OK
}

// whole are bytes as whole blocks, with noughts behind.
func whole(b []byte) [][]byte {
	var l [][]byte
	for at := 0; at < len(b); at += api.Block {
		block := make([]byte, api.Block)
		copy(block, b[at:])
		l = append(l, block)
	}
	return l
}

func copyDir(d api.Dir) api.Dir {
	var l []api.File
	for _, x := range d.Files {
		l = append(l, api.File{Name: x.Name, Extents: slices.Clone(x.Extents)})
	}
	return api.Dir{Files: l}
}
