package room_test

import (
	"math"
	"slices"
	"testing"

	"millhand/api"
	"millhand/room"
)

const max = api.MaxBlocks

// of are the extents of pairs of numbers.
func of(l ...int) []api.Extent {
	var out []api.Extent
	for i := 0; i < len(l); i += 2 {
		out = append(out, api.Extent{At: l[i], Many: l[i+1]})
	}
	return out
}

// again is one extent so many times.
func again(at, many, times int) []api.Extent {
	return slices.Repeat(of(at, many), times)
}

// ones are so many extents of one block each, from a block on, so far from each other.
func ones(at, step, times int) []api.Extent {
	var out []api.Extent
	for i := range times {
		out = append(out, api.Extent{At: at + i*step, Many: 1})
	}
	return out
}

// odd are extents that may not be.
var odd = map[string]api.Extent{
	"noughts":                        {At: 0, Many: 0},
	"no blocks in the midst":         {At: 5, Many: 0},
	"no blocks behind the last":      {At: max, Many: 0},
	"fewer than no blocks":           {At: 5, Many: -1},
	"fewer than no blocks, at 0":     {At: 0, Many: -max},
	"below 0":                        {At: -1, Many: 1},
	"from below 0 on":                {At: -1, Many: 2},
	"from below 0 to the end":        {At: -1, Many: max + 1},
	"one beyond, at 0":               {At: 0, Many: max + 1},
	"one beyond, at 1":               {At: 1, Many: max},
	"one beyond, in the midst":       {At: max / 2, Many: max/2 + 1},
	"one beyond, at the last block":  {At: max - 1, Many: 2},
	"behind the last block":          {At: max, Many: 1},
	"far behind the last block":      {At: max + 7, Many: 1},
	"many fewer than far behind":     {At: max + 7, Many: -7},
	"the greatest many":              {At: 0, Many: math.MaxInt},
	"the greatest many, at 1":        {At: 1, Many: math.MaxInt},
	"the greatest at":                {At: math.MaxInt, Many: 1},
	"the greatest twice":             {At: math.MaxInt, Many: math.MaxInt},
	"the greatest, then two more":    {At: math.MaxInt, Many: 2},
	"the greatest but at, then at":   {At: math.MaxInt - 5, Many: 6},
	"the least at":                   {At: math.MinInt, Many: 1},
	"the least many":                 {At: 1, Many: math.MinInt},
	"the least at, the greatest":     {At: math.MinInt, Many: math.MaxInt},
	"the least twice":                {At: math.MinInt, Many: math.MinInt},
	"the greatest at, the least":     {At: math.MaxInt, Many: math.MinInt},
	"a sum that wraps to some":       {At: math.MaxInt, Many: math.MinInt + 9},
	"a sum of 2^32, as one of 0":     {At: 1 << 31, Many: 1 << 31},
	"a many of 2^32 and one":         {At: 3, Many: 1<<32 + 1},
	"an at of 2^32 and one":          {At: 1<<32 + 1, Many: 1},
	"a sum of no more, at below":     {At: -max, Many: 2 * max},
	"a many that is as good as none": {At: max - 1, Many: math.MinInt},
}

// fine are extents that may be, the edges.
var fine = map[string]api.Extent{
	"the first block":    {At: 0, Many: 1},
	"the second block":   {At: 1, Many: 1},
	"the last block":     {At: max - 1, Many: 1},
	"all blocks":         {At: 0, Many: max},
	"all but the first":  {At: 1, Many: max - 1},
	"all but the last":   {At: 0, Many: max - 1},
	"the second half":    {At: max / 2, Many: max / 2},
	"some in the midst":  {At: 34, Many: 7},
	"the last two":       {At: max - 2, Many: 2},
	"one in the midst":   {At: 2000, Many: 1},
	"the blocks of dirs": {At: 2, Many: 32},
}

// among tells whether a block is in one of the extents.
func among(l []api.Extent, n int) bool {
	return slices.ContainsFunc(l, func(x api.Extent) bool { return n >= x.At && n < x.At+x.Many })
}

// plain are the free extents as the chapter's words tell them, without the help of the package under test.
func plain(from, to int, used []api.Extent) []api.Extent {
	var out []api.Extent
	for n := from; n < to; {
		end := n
		for end < to && !among(used, end) {
			end++
		}
		if end > n {
			out = append(out, api.Extent{At: n, Many: end - n})
		}
		n = end + 1
	}
	return out
}

// sum is how many blocks extents have, which are apart.
func sum(l []api.Extent) int {
	many := 0
	for _, x := range l {
		many += x.Many
	}
	return many
}

// wantCheck holds Check, Many and Blocks of one list against what is wanted of it.
func wantCheck(t *testing.T, name string, l []api.Extent, want api.Errno) {
	t.Helper()
	var blocks []int
	if want == api.OK {
		for _, x := range l {
			for n := x.At; n < x.At+x.Many; n++ {
				blocks = append(blocks, n)
			}
		}
	}
	if e := room.Check(l); e != want {
		t.Errorf("Check of %s: error %d, not %d", name, e, want)
	}
	if n, e := room.Many(l); e != want || n != len(blocks) {
		t.Errorf("Many of %s: %d, error %d, not %d, error %d", name, n, e, len(blocks), want)
	}
	if b, e := room.Blocks(l); e != want || !slices.Equal(b, blocks) {
		t.Errorf("Blocks of %s: %v, error %d, not %v, error %d", name, b, e, blocks, want)
	}
}

// wantFree holds Free against what is wanted of it.
func wantFree(t *testing.T, name string, from, to int, used, want []api.Extent, err api.Errno) {
	t.Helper()
	if l, e := room.Free(from, to, used); e != err || !slices.Equal(l, want) {
		t.Errorf("%s: Free(%d, %d, ..): %v, error %d, not %v, error %d", name, from, to, l, e, want, err)
	}
}

// wantTake holds Take against what is wanted of it.
func wantTake(t *testing.T, name string, from, to int, used []api.Extent, many int, want []api.Extent, err api.Errno) {
	t.Helper()
	if l, e := room.Take(from, to, used, many); e != err || !slices.Equal(l, want) {
		t.Errorf("%s: Take(%d, %d, .., %d): %v, error %d, not %v, error %d", name, from, to, many, l, e, want, err)
	}
}
