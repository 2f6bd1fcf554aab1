package manifest

import (
	"bytes"

	"millhand/api"
	"millhand/code"
)

// bytesOf are the bytes of a version that may be, none of whose numbers is below 0.
func bytesOf(v api.Version) []byte {
	var b bytes.Buffer
	number := func(n int) { b.Write(code.Small(uint64(n))) }
	text := func(s string) { b.Write(code.Text(s)) }
	for _, l := range v.Levels {
		number(len(l))
		for _, m := range l {
			text(m.Name)
			number(m.Size)
			number(m.Many)
			text(m.Low)
			text(m.High)
		}
	}
	number(v.Next)
	number(v.Seq)
	text(v.Log)
	return b.Bytes()
}

// reader takes a version off the bytes that it begins with. Behind the first thing that is not there it is bad, and what it tells counts for nothing.
type reader struct {
	rest []byte
	bad  bool
}

// version is the one that the bytes begin with. No more tables than a version may have are looked for, whatever the bytes tell.
func (r *reader) version() (v api.Version) {
	v.Levels = make([][]api.Meta, api.Levels)
	for i := range v.Levels {
		for range r.number(api.MaxMetas) {
			v.Levels[i] = append(v.Levels[i], r.table())
		}
	}
	v.Next = r.number(api.MaxSeq)
	v.Seq = r.number(api.MaxSeq)
	v.Log = r.text()
	return v
}

func (r *reader) table() (m api.Meta) {
	m.Name = r.text()
	m.Size = r.number(api.MaxTable)
	m.Many = r.number(api.MaxEntries)
	m.Low = r.text()
	m.High = r.text()
	return m
}

// number refuses what is more than most ahead of making an int of it, since a greater one might not go into an int.
func (r *reader) number(most uint64) int {
	n, size, e := code.Read(r.rest)
	if r.bad || e != api.OK || n > most {
		r.bad = true
		return 0
	}
	r.rest = r.rest[size:]
	return int(n)
}

func (r *reader) text() string {
	s, rest, e := code.Cut(r.rest)
	if r.bad || e != api.OK {
		r.bad = true
		return ""
	}
	r.rest = rest
	return s
}
