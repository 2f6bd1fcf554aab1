package version_test

import (
	"slices"

	"millhand/api"
)

// What the calls are to answer, by the chapter's words: each table is held against each other one.

func plainTableMayBe(m api.Meta) bool {
	for _, s := range []string{m.Low, m.High} {
		if len(s) < 1 || len(s) > 64 {
			return false
		}
	}
	if len(m.Name) < 1 || len(m.Name) > 16 || m.Low > m.High {
		return false
	}
	return m.Size >= 1 && m.Size <= 16384 && m.Many >= 1 && m.Many <= 65536
}

// plainMeet tells whether two tables meet: neither one's High is below the other's Low.
func plainMeet(x, y api.Meta) bool { return !(x.High < y.Low) && !(y.High < x.Low) }

func plainCheck(v api.Version) api.Errno {
	all := slices.Concat(v.Levels...)
	if len(all) > 32 {
		return api.ErrMany
	}
	if len(v.Levels) != 4 || len(v.Log) < 1 || len(v.Log) > 16 {
		return api.ErrBad
	}
	if v.Next < 1 || v.Next > 1<<40 || v.Seq < 0 || v.Seq > 1<<40 {
		return api.ErrBad
	}
	for i, x := range all {
		if !plainTableMayBe(x) || x.Name == v.Log {
			return api.ErrBad
		}
		for _, y := range all[:i] {
			if x.Name == y.Name {
				return api.ErrBad
			}
		}
	}
	for _, l := range v.Levels[1:] {
		for i, x := range l {
			for _, y := range l[:i] {
				if plainMeet(x, y) || x.Low < y.Low {
					return api.ErrBad
				}
			}
		}
	}
	return api.OK
}

func plainAdd(v api.Version, m api.Meta) (api.Version, api.Errno) {
	if err := plainCheck(v); err != api.OK {
		return api.Version{}, err
	}
	v = deepCopy(v)
	v.Levels[0] = append(v.Levels[0], m)
	return v, plainCheck(v)
}

func count(l []api.Meta, m api.Meta) (n int) {
	for _, x := range l {
		if x == m {
			n++
		}
	}
	return n
}

// plainLeft is the tables of a level that are not among some.
func plainLeft(l, gone []api.Meta) (out []api.Meta) {
	for _, x := range l {
		if count(gone, x) == 0 {
			out = append(out, x)
		}
	}
	return out
}

func plainSwap(v api.Version, w api.Work, l []api.Meta) (api.Version, api.Errno) {
	if err := plainCheck(v); err != api.OK {
		return api.Version{}, err
	}
	if w.Level != 0 && w.Level != 1 && w.Level != 2 {
		return api.Version{}, api.ErrArg
	}
	for _, x := range w.Upper {
		if count(v.Levels[w.Level], x) != 1 || count(w.Upper, x) != 1 {
			return api.Version{}, api.ErrNone
		}
	}
	for _, x := range w.Lower {
		if count(v.Levels[w.Level+1], x) != 1 || count(w.Lower, x) != 1 {
			return api.Version{}, api.ErrNone
		}
	}
	v = deepCopy(v)
	v.Levels[w.Level] = plainLeft(v.Levels[w.Level], w.Upper)
	lower := append(plainLeft(v.Levels[w.Level+1], w.Lower), l...)
	slices.SortStableFunc(lower, func(x, y api.Meta) int {
		switch {
		case x.Low < y.Low:
			return -1
		case x.Low > y.Low:
			return 1
		}
		return 0
	})
	v.Levels[w.Level+1] = lower
	return v, plainCheck(v)
}

func plainOverlap(v api.Version, level int, low, high string) (out []api.Meta) {
	for _, m := range v.Levels[level] {
		if m.High < low || m.Low > high {
			continue
		}
		out = append(out, m)
	}
	return out
}

// plainNames takes the least name that is left, again and again.
func plainNames(v api.Version) (out []string) {
	left := []string{v.Log}
	for _, m := range slices.Concat(v.Levels...) {
		left = append(left, m.Name)
	}
	for len(left) > 0 {
		at := 0
		for i := range left {
			if left[i] < left[at] {
				at = i
			}
		}
		out = append(out, left[at])
		left = slices.Delete(left, at, at+1)
	}
	return out
}
