package pick_test

import (
	"fmt"
	"math/rand"
	"slices"

	"millhand/api"
)

// What the calls are to answer, by the chapter's words.

// plainScore counts a level's tables from one more than it holds on.
func plainScore(v api.Version, level int) (n int) {
	if level == 3 {
		return 0
	}
	held := []int{3, 8, 16}[level]
	for i := range v.Levels[level] {
		if i >= held {
			n++
		}
	}
	return n
}

func plainMeets(m api.Meta, low, high string) bool { return !(m.High < low) && !(high < m.Low) }

func plainPick(v api.Version) (api.Work, api.Errno) {
	for most := 32; most > 0; most-- {
		for level := range 4 {
			if plainScore(v, level) == most {
				return plainWork(v, level), api.OK
			}
		}
	}
	return api.Work{}, api.ErrNone
}

func plainWork(v api.Version, level int) api.Work {
	w := api.Work{Level: level}
	var keys []string
	for i, m := range v.Levels[level] {
		if i == 0 || level == 0 {
			w.Upper = append(w.Upper, m)
			keys = append(keys, m.Low, m.High)
		}
	}
	slices.Sort(keys)
	for _, m := range v.Levels[level+1] {
		if plainMeets(m, keys[0], keys[len(keys)-1]) {
			w.Lower = append(w.Lower, m)
		}
	}
	return w
}

// anyKey is one of few keys of few bytes.
func anyKey(r *rand.Rand) string {
	b := make([]byte, 1+r.Intn(2))
	for i := range b {
		b[i] = "\x00ab\xff"[r.Intn(4)]
	}
	return string(b) + fmt.Sprint(r.Intn(10))
}

// anyRow is as many tables as keys, apart, rising, each of one key or of two.
func anyRow(r *rand.Rand, level, most int) (l []api.Meta) {
	var keys []string
	for range 2 * most {
		keys = append(keys, anyKey(r))
	}
	slices.Sort(keys)
	keys = slices.Compact(keys)
	for len(keys) > 1 && len(l) < most {
		many := 1 + r.Intn(2)
		m := table(fmt.Sprintf("%d.%d", level, len(l)), keys[0], keys[many-1])
		m.Size, m.Many = 1+r.Intn(16384), 1+r.Intn(65536)
		l, keys = append(l, m), keys[many:]
	}
	return l
}

// anyHeap is so many tables of level 0.
func anyHeap(r *rand.Rand, many int) (l []api.Meta) {
	for i := range many {
		x, y := anyKey(r), anyKey(r)
		l = append(l, table(fmt.Sprintf("0.%d", i), min(x, y), max(x, y)))
	}
	return l
}

// anyVersion is a version that may be, of 32 tables at most.
func anyVersion(r *rand.Rand) api.Version {
	left := 32
	most := func(n int) int {
		n = min(r.Intn(n), left)
		left -= n
		return n
	}
	v := of()
	for _, level := range r.Perm(4) {
		if level == 0 {
			v.Levels[0] = anyHeap(r, most(9))
		} else {
			v.Levels[level] = anyRow(r, level, most(24))
		}
	}
	return v
}
