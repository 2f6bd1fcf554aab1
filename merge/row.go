package merge

import (
	"cmp"
	"iter"

	"millhand/api"
)

func mayBe(x api.Entry) bool {
	if len(x.Key) < 1 || len(x.Key) > api.MaxKey || len(x.Value) > api.MaxValue {
		return false
	}
	return x.Seq >= 1 && x.Seq <= api.MaxSeq && (!x.Dead || x.Value == "")
}

// compare has the newest of one key's entries ahead.
func compare(x, y api.Entry) int {
	return cmp.Or(cmp.Compare(x.Key, y.Key), cmp.Compare(y.Seq, x.Seq))
}

// checkAt tells whether something can be seen of a row at a number.
func checkAt(row []api.Entry, seq int) api.Errno {
	if e := Check(row); e != api.OK {
		return e
	}
	if seq < 0 || seq > api.MaxSeq {
		return api.ErrArg
	}
	return api.OK
}

// merged is all entries of rows, in order, in memory of its own. Halves are merged, and not one row into all others, so that an entry is copied no oftener than rows can be halved.
func merged(rows [][]api.Entry) []api.Entry {
	switch len(rows) {
	case 0:
		return nil
	case 1:
		return append([]api.Entry(nil), rows[0]...)
	}
	half := len(rows) / 2
	return two(merged(rows[:half]), merged(rows[half:]))
}

// two is the entries of two rows, in order, in memory of its own.
func two(x, y []api.Entry) []api.Entry {
	out := make([]api.Entry, 0, len(x)+len(y))
	for len(x) > 0 && len(y) > 0 {
		if compare(x[0], y[0]) <= 0 {
			out, x = append(out, x[0]), x[1:]
		} else {
			out, y = append(out, y[0]), y[1:]
		}
	}
	return append(append(out, x...), y...)
}

// seen goes through what is seen of a row at a number: of one key the newest stand ahead, so that it is the first one that is not above.
func seen(row []api.Entry, seq int) iter.Seq[api.Entry] {
	return func(yield func(api.Entry) bool) {
		key := "" // no entry has this one
		for _, x := range row {
			if x.Seq > seq || x.Key == key {
				continue
			}
			key = x.Key
			if !yield(x) {
				return
			}
		}
	}
}

// listSeen is what is seen of a row at a number; without what is dead, if noneDead.
func listSeen(row []api.Entry, seq int, noneDead bool) []api.Entry {
	var out []api.Entry
	for x := range seen(row, seq) {
		if !x.Dead || !noneDead {
			out = append(out, x)
		}
	}
	return out
}

// above is the entries of a row whose numbers are above one.
func above(row []api.Entry, seq int) []api.Entry {
	var out []api.Entry
	for _, x := range row {
		if x.Seq > seq {
			out = append(out, x)
		}
	}
	return out
}
