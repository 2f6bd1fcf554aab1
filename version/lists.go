package version

import (
	"cmp"
	"slices"

	"millhand/api"
)

func byLow(x, y api.Meta) int { return cmp.Compare(x.Low, y.Low) }

// behind tells whether all keys of a table are above those of the one ahead.
func behind(m, ahead api.Meta) bool { return m.Low > ahead.High }

// rises tells whether something holds of each element and the one ahead of it.
func rises[S ~[]E, E any](l S, above func(x, ahead E) bool) bool {
	for i := 1; i < len(l); i++ {
		if !above(l[i], l[i-1]) {
			return false
		}
	}
	return true
}

// without is a slice without some of its elements, in memory of its own; false, if one of them is not there, or is asked for once more than it is.
func without[S ~[]E, E comparable](l, gone S) (S, bool) {
	left := append(S(nil), l...)
	for _, x := range gone {
		at := slices.Index(left, x)
		if at < 0 {
			return nil, false
		}
		left = slices.Delete(left, at, at+1)
	}
	return left, true
}

// with is a sorted slice with some elements more, each at its place, in memory of its own.
func with[S ~[]E, E any](l, more S, compare func(x, y E) int) S {
	out := append(S(nil), l...)
	for _, x := range more {
		at, _ := slices.BinarySearchFunc(out, x, compare)
		out = slices.Insert(out, at, x)
	}
	return out
}

// deep is a slice of slices, all of them in memory of their own.
func deep[S ~[]E, E any](l []S) []S {
	out := make([]S, len(l))
	for i, x := range l {
		out[i] = append(S(nil), x...)
	}
	return out
}
