package compact_test

import (
	"fmt"
	"math/rand"
	"slices"
	"testing"

	"millhand/api"
	"millhand/fs"
	"millhand/manifest"
	"millhand/table"
	"millhand/version"
)

// What the calls are to answer, by the chapter's words, of arguments that may be.

// plainCut asks each place at which another key begins.
func plainCut(l []api.Entry) (rows [][]api.Entry, err api.Errno) {
	if len(l) == 0 {
		return nil, api.OK
	}
	if _, _, err := table.Build(l); err == api.OK {
		return [][]api.Entry{l}, api.OK
	}
	var places []int
	for i := range l {
		if i > 0 && l[i].Key != l[i-1].Key {
			places = append(places, i)
		}
	}
	if len(places) == 0 {
		return nil, api.ErrText
	}
	at := places[len(places)-1]
	for _, p := range slices.Backward(places) {
		if p >= len(l)/2 {
			at = p
		}
	}
	low, err := plainCut(l[:at])
	high, other := plainCut(l[at:])
	if err != api.OK || other != api.OK {
		return nil, api.ErrText
	}
	return append(low, high...), api.OK
}

// plainBuild stores rows one by one.
func plainBuild(f api.Fs, l []api.Entry, next int) (api.Fs, []api.Meta, api.Errno) {
	rows, err := plainCut(l)
	if err != api.OK {
		return api.Fs{}, nil, err
	}
	if next < 1 || next > 1<<40-1<<16 {
		return api.Fs{}, nil, api.ErrArg
	}
	var out []api.Meta
	for i, x := range rows {
		b, m, _ := table.Build(x)
		m.Name = fmt.Sprintf("t%d", next+i)
		if f, err = manifest.Store(f, m.Name, b); err != api.OK {
			return api.Fs{}, nil, err
		}
		out = append(out, m)
	}
	return f, out, api.OK
}

// plainSeen asks each entry of what is seen at a number under a key.
func plainSeen(l []api.Entry, key string, seq int) (best api.Entry) {
	for _, x := range l {
		if x.Key == key && x.Seq <= seq && x.Seq > best.Seq {
			best = x
		}
	}
	return best
}

// plainLeft is what merge.Drop leaves, in order.
func plainLeft(l []api.Entry, oldest int, last bool) (out []api.Entry) {
	for _, x := range l {
		seen := x == plainSeen(l, x.Key, oldest)
		if x.Seq > oldest || seen && !(x.Dead && last) {
			out = append(out, x)
		}
	}
	return sorted(out)
}

func sorted(l []api.Entry) []api.Entry {
	out := slices.Clone(l)
	slices.SortFunc(out, func(x, y api.Entry) int {
		if x.Key < y.Key || x.Key == y.Key && x.Seq > y.Seq {
			return -1
		}
		return 1
	})
	return out
}

// plainRows is all entries of tables, table by table.
func plainRows(f api.Fs, l []api.Meta) (rows [][]api.Entry, err api.Errno) {
	for _, m := range l {
		b, err := manifest.Fetch(f, m.Name, m.Size)
		if err != api.OK {
			return nil, err
		}
		row, err := table.Read(b)
		if err != api.OK {
			return nil, err
		}
		rows = append(rows, row)
	}
	return rows, api.OK
}

// plainFlush is what Flush answers, of entries in memory that may be.
func plainFlush(h house, m api.Mem, oldest int) (house, api.Errno) {
	g, made, err := plainBuild(h.f, plainLeft(m.Entries, oldest, false), h.v.Next)
	if err != api.OK {
		return house{}, err
	}
	v := h.v
	for _, x := range made {
		if v, err = version.Add(v, x); err != api.OK {
			return house{}, err
		}
	}
	v.Next = h.v.Next + len(made)
	for _, x := range m.Entries {
		v.Seq = max(v.Seq, x.Seq)
	}
	return house{g, v}, api.OK
}

// plainLast tells whether no table two levels lower meets a row's keys.
func plainLast(v api.Version, level int, l []api.Entry) bool {
	for i := level + 2; i < 4 && len(l) > 0; i++ {
		for _, m := range v.Levels[i] {
			if !(m.High < l[0].Key) && !(l[len(l)-1].Key < m.Low) {
				return false
			}
		}
	}
	return true
}

// plainCompact is what Compact answers, of a work that stands in the version.
func plainCompact(h house, w api.Work, oldest int) (house, api.Errno) {
	old := append(slices.Clone(w.Upper), w.Lower...)
	rows, err := plainRows(h.f, old)
	if err != api.OK {
		return house{}, err
	}
	all := sorted(slices.Concat(rows...))
	for i := range all {
		if i > 0 && all[i].Key == all[i-1].Key && all[i].Seq == all[i-1].Seq {
			return house{}, api.ErrBad
		}
	}
	g, made, err := plainBuild(h.f, plainLeft(all, oldest, plainLast(h.v, w.Level, all)), h.v.Next)
	if err != api.OK {
		return house{}, err
	}
	v, err := version.Swap(h.v, w, made)
	if err != api.OK {
		return house{}, err
	}
	v.Next = h.v.Next + len(made)
	for _, m := range old {
		if g, err = fs.Delete(g, m.Name); err != api.OK {
			return house{}, err
		}
	}
	return house{g, v}, api.OK
}

// anyRow is a row of up to so many entries, of few keys, of values of up to so many bytes, whose numbers are up to one.
func anyRow(r *rand.Rand, most, kinds, size, seq int) []api.Entry {
	var l []api.Entry
	there := map[string]map[int]bool{}
	for range r.Intn(most + 1) {
		x := e(fmt.Sprintf("%03d", r.Intn(kinds)), 1+r.Intn(seq), text(r.Intn(size+1)))
		if r.Intn(4) == 0 {
			x = gone(x.Key, x.Seq)
		}
		if there[x.Key] == nil {
			there[x.Key] = map[int]bool{}
		}
		if !there[x.Key][x.Seq] {
			there[x.Key][x.Seq] = true
			l = append(l, x)
		}
	}
	return sorted(l)
}

// anyHouse is a house of tables of few keys, of levels that are older the lower they are.
func anyHouse(t *testing.T, r *rand.Rand) house {
	h := empty(t, 400)
	number := 0
	add := func(level int, l []api.Entry) {
		if _, _, err := table.Build(l); err == api.OK {
			number++
			h = h.with(t, level, fmt.Sprint("a", number), l...)
		}
	}
	newer := func(l []api.Entry, by int) []api.Entry {
		for i := range l {
			l[i].Seq += by
		}
		return l
	}
	for level := 3; level > 0; level-- {
		l := newer(anyRow(r, 40, 12, 1+r.Intn(100), 50), 50*(3-level))
		for len(l) > 0 {
			n := 1 + r.Intn(len(l))
			for n < len(l) && l[n].Key == l[n-1].Key {
				n++
			}
			if r.Intn(4) > 0 {
				add(level, l[:n])
			}
			l = l[n:]
		}
	}
	for i := range r.Intn(5) {
		add(0, newer(anyRow(r, 12, 12, 50, 30), 150+30*i))
	}
	return h.at(1 + r.Intn(1000))
}

// anyWork is some tables of a level and some of the next one, that meet or not.
func anyWork(r *rand.Rand, v api.Version) api.Work {
	w := api.Work{Level: r.Intn(3)}
	some := func(l []api.Meta) (out []api.Meta) {
		for _, i := range r.Perm(len(l)) {
			if r.Intn(2) == 0 {
				out = append(out, l[i])
			}
		}
		return out
	}
	w.Upper, w.Lower = some(v.Levels[w.Level]), some(v.Levels[w.Level+1])
	return w
}
