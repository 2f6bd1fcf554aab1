package mem

import (
	"cmp"
	"slices"

	"millhand/api"
)

func mayBe(x api.Entry) bool {
	if len(x.Key) < 1 || len(x.Key) > api.MaxKey || len(x.Value) > api.MaxValue {
		return false
	}
	return x.Seq >= 1 && x.Seq <= api.MaxSeq && (!x.Dead || x.Value == "")
}

// compare has the newest of one key's entries ahead, so that what is seen at a number is the first one that is not above it.
func compare(x, y api.Entry) int {
	return cmp.Or(cmp.Compare(x.Key, y.Key), cmp.Compare(y.Seq, x.Seq))
}

// place is where an entry of this key and number stands, or would stand.
func place(l []api.Entry, key string, seq int) int {
	at, _ := slices.BinarySearchFunc(l, api.Entry{Key: key, Seq: seq}, compare)
	return at
}

// first is where the entries of keys that are not below this one begin: no entry has a number above MaxSeq.
func first(l []api.Entry, key string) int {
	return place(l, key, api.MaxSeq)
}

// latest is the greatest number of all entries; 0, if there are none.
func latest(l []api.Entry) int {
	most := 0
	for _, x := range l {
		most = max(most, x.Seq)
	}
	return most
}

// with is a copy of entries, with more of them, each at its place.
func with(l, more []api.Entry) []api.Entry {
	out := slices.Clone(l)
	for _, x := range more {
		out = slices.Insert(out, place(out, x.Key, x.Seq), x)
	}
	return out
}
