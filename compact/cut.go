package compact

import (
	"slices"
	"strconv"

	"millhand/api"
	"millhand/table"
)

// cut halves entries until each part is a row of which there is a table.
func cut(l []api.Entry) (rows [][]api.Entry, e api.Errno) {
	defer func() {
		if e != api.OK {
			rows = nil
		}
	}()
	if len(l) == 0 {
		return nil, api.OK
	}
	if _, _, e := table.Build(l); e == api.OK {
		return [][]api.Entry{slices.Clone(l)}, api.OK
	}
	at := halfway(l)
	if at == 0 {
		return nil, api.ErrText
	}
	rows, e = cut(l[:at])
	if e != api.OK {
		return
	}
	more, e := cut(l[at:])
	return append(rows, more...), e
}

// halfway is the place nearest to the half, at or behind it if there is one there, at which another key begins; 0, if all have one key. All of one key stay together, so that one table of a level tells all of it.
func halfway(l []api.Entry) int {
	half := len(l) / 2
	for at := max(half, 1); at < len(l); at++ {
		if begins(l, at) {
			return at
		}
	}
	for at := half - 1; at > 0; at-- {
		if begins(l, at) {
			return at
		}
	}
	return 0
}

// begins tells whether another key begins at a place.
func begins(l []api.Entry, at int) bool { return l[at].Key != l[at-1].Key }

// nameOf is the name of the table of a number.
func nameOf(n int) string { return "t" + strconv.Itoa(n) }

// latest is the greatest number of all entries; 0, if there are none.
func latest(l []api.Entry) (most int) {
	for _, x := range l {
		most = max(most, x.Seq)
	}
	return most
}
