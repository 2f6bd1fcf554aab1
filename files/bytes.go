package files

import (
	"millhand/api"
	"millhand/code"
)

const maxBytes = api.DirBlocks * api.Block // of a directory

// Write is a directory's bytes.
func Write(d api.Dir, blocks int) ([]byte, api.Errno) {
	if e := Check(d, blocks); e != api.OK {
		return nil, e
	}
	return bytesOf(d.Files), api.OK
}

// Read is the directory whose bytes these are, none more and none less.
func Read(b []byte, blocks int) (api.Dir, api.Errno) {
	if !blocksMayBe(blocks) {
		return api.Dir{}, api.ErrArg
	}
	if len(b) > maxBytes {
		return api.Dir{}, api.ErrText
	}
	l, rest, e := cutFiles(b)
	if e != api.OK || len(rest) > 0 || !mayBe(l, blocks) {
		return api.Dir{}, api.ErrBad
	}
	return api.Dir{Files: l}, api.OK
}

func bytesOf(l []api.File) []byte {
	b := code.Small(uint64(len(l)))
	for _, f := range l {
		b = append(b, code.Text(f.Name)...)
		b = append(b, code.Small(uint64(len(f.Extents)))...)
		for _, x := range f.Extents {
			b = append(b, code.Small(uint64(x.At))...)
			b = append(b, code.Small(uint64(x.Many))...)
		}
	}
	return b
}

// cutFiles are the files whose bytes b begins with, and what stands behind them.
func cutFiles(b []byte) ([]api.File, []byte, api.Errno) {
	many, b, e := cutNumber(b)
	if e != api.OK {
		return nil, nil, e
	}
	var l []api.File
	for range many {
		f, rest, e := cutFile(b)
		if e != api.OK {
			return nil, nil, e
		}
		l, b = append(l, f), rest
	}
	return l, b, api.OK
}

func cutFile(b []byte) (api.File, []byte, api.Errno) {
	name, b, e := code.Cut(b)
	if e != api.OK {
		return api.File{}, nil, e
	}
	many, b, e := cutNumber(b)
	if e != api.OK {
		return api.File{}, nil, e
	}
	f := api.File{Name: name}
	for range many {
		x, rest, e := cutExtent(b)
		if e != api.OK {
			return api.File{}, nil, e
		}
		f.Extents, b = append(f.Extents, x), rest
	}
	return f, b, api.OK
}

func cutExtent(b []byte) (api.Extent, []byte, api.Errno) {
	at, b, e := cutNumber(b)
	if e != api.OK {
		return api.Extent{}, nil, e
	}
	many, b, e := cutNumber(b)
	if e != api.OK {
		return api.Extent{}, nil, e
	}
	return api.Extent{At: at, Many: many}, b, api.OK
}

// cutNumber refuses what is more than a disk's blocks ahead of making an int of it: no number of a directory is, and a greater one might not go into an int.
func cutNumber(b []byte) (int, []byte, api.Errno) {
	n, size, e := code.Read(b)
	if e != api.OK {
		return 0, nil, e
	}
	if n > api.MaxBlocks {
		return 0, nil, api.ErrBad
	}
	return int(n), b[size:], api.OK
}
