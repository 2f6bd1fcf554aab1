package wal

import (
	"bytes"
	"math"

	"millhand/api"
	"millhand/frame"
	"millhand/fs"
)

// refused is what a call that turns files answers with an error.
func refused(e api.Errno) (api.Fs, api.Wal, api.Errno) { return api.Fs{}, api.Wal{}, e }

// blocksOf are a file's blocks as they are now.
func blocksOf(f api.Fs, name string) (l [][]byte, e api.Errno) {
	many, e := fs.Size(f, name)
	for i := 0; i < many && e == api.OK; i++ {
		var b []byte
		b, e = fs.Get(f, name, i)
		l = append(l, b)
	}
	return l, e
}

// put is files into one of which some blocks are put, from a place on, in order.
func put(f api.Fs, name string, at int, l [][]byte) (out api.Fs, e api.Errno) {
	out = f
	for i := 0; i < len(l) && e == api.OK; i++ {
		out, e = fs.Put(out, name, at+i, l[i])
	}
	return out, e
}

// head is a log's file's block 0, which tells its gen.
func head(gen uint32) []byte {
	b := make([]byte, api.Block)
	for i := range 4 {
		b[i] = byte(gen >> (8 * i))
	}
	return b
}

// held is the gen that a block 0 tells, if it holds.
func held(b []byte) (uint32, api.Errno) {
	gen, e := frame.Greatest([][]byte{b})
	if e == api.OK && (gen == 0 || !bytes.Equal(b, head(gen))) {
		return 0, api.ErrBad
	}
	return gen, e
}

// unused is a gen of which no block of a file is, whatever stood in its blocks when other files had them: none of these is read as a record.
func unused(f api.Fs, name string) (uint32, api.Errno) {
	l, e := blocksOf(f, name)
	if e != api.OK {
		return 0, e
	}
	most, e := frame.Greatest(l)
	if e != api.OK {
		return 0, e
	}
	if most == math.MaxUint32 {
		return 0, api.ErrFull
	}
	return most + 1, api.OK
}

// behind is how many blocks a log's file has behind its records, if the log is as it is.
func behind(f api.Fs, w api.Wal) (int, api.Errno) {
	is, _, e := Open(f, w.Name)
	if e != api.OK {
		return 0, e
	}
	if is != w {
		return 0, api.ErrBad
	}
	many, e := fs.Size(f, w.Name)
	return many - 1 - w.Blocks, e
}

// next are the blocks of a log's next record. Its salt is above all that stand in the file, so that blocks which a loss of power left there never make a record with some of these.
func next(w api.Wal, record []byte) ([][]byte, api.Errno) {
	if len(record) > api.MaxRecord {
		return nil, api.ErrText
	}
	salt := max(w.Last, w.Greatest)
	if salt == math.MaxUint32 {
		return nil, api.ErrFull
	}
	return frame.Frame(w.Gen, uint32(w.Number+1), salt+1, w.Last, record)
}
