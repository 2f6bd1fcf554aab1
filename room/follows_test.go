package room_test

import (
	"slices"
	"testing"

	"millhand/api"
	"millhand/room"
)

const few = 7 // blocks of which all used ones are tried

// runs are the extents, as short as can be, of the blocks whose bits are set; from a block on.
func runs(bits, at int) []api.Extent {
	var out []api.Extent
	for n := range few {
		if bits>>n&1 != 0 {
			out = append(out, api.Extent{At: at + n, Many: 1})
		}
	}
	return out
}

// wantWhole holds what is free and what is taken against the promise's words, block by block.
func wantWhole(t *testing.T, from, to int, used []api.Extent) {
	t.Helper()
	free, e := room.Free(from, to, used)
	if e != api.OK || !slices.Equal(free, plain(from, to, used)) {
		t.Fatalf("Free(%d, %d, %v): %v, error %d", from, to, used, free, e)
	}
	if room.Check(free) != api.OK {
		t.Fatalf("Free(%d, %d, %v): %v are not apart, or may not be", from, to, used, free)
	}
	for i, x := range free {
		if i > 0 && x.At <= free[i-1].At+free[i-1].Many {
			t.Fatalf("Free(%d, %d, %v): %v do not rise, or two could be one", from, to, used, free)
		}
	}
	for n := range to + 3 {
		if among(free, n) != (n >= from && n < to && !among(used, n)) {
			t.Fatalf("Free(%d, %d, %v): %v, with block %d", from, to, used, free, n)
		}
	}
	for many := 1; many <= to-from+2; many++ {
		wantTaken(t, from, to, used, many, free)
	}
}

// wantTaken holds what is taken against the promise's words.
func wantTaken(t *testing.T, from, to int, used []api.Extent, many int, free []api.Extent) {
	t.Helper()
	got, e := room.Take(from, to, used, many)
	if sum(free) < many {
		if e != api.ErrRoom || len(got) != 0 {
			t.Fatalf("Take(%d, %d, %v, %d): %v, error %d, of %v", from, to, used, many, got, e, free)
		}
		return
	}
	blocks, f := room.Blocks(got)
	if e != api.OK || f != api.OK || len(blocks) != many || !slices.IsSorted(blocks) {
		t.Fatalf("Take(%d, %d, %v, %d): %v, error %d; its blocks %v, error %d", from, to, used, many, got, e, blocks, f)
	}
	last := blocks[many-1]
	for n := range to + 3 {
		if among(got, n) != (among(free, n) && n <= last) {
			t.Fatalf("Take(%d, %d, %v, %d): %v of %v, with block %d", from, to, used, many, got, free, n)
		}
	}
	rest, e := room.Free(from, to, append(slices.Clone(used), got...)) // what was taken is used from then on
	if e != api.OK || sum(rest) != sum(free)-many {
		t.Fatalf("Take(%d, %d, %v, %d): then %v are free, error %d", from, to, used, many, rest, e)
	}
}

func TestWhatFollowsBlockByBlock(t *testing.T) { // P4.4: of all sets of used blocks, and between all blocks
	for bits := range 1 << few {
		for from := range few + 1 {
			for to := from; to <= few+1; to++ {
				wantWhole(t, from, to, runs(bits, 0))
			}
		}
	}
}

func TestWhatFollowsOfExtents(t *testing.T) { // P4.4: of all pairs of used extents, which meet, touch and lie outside
	var all []api.Extent
	for at := range few {
		for many := 1; at+many <= few; many++ {
			all = append(all, api.Extent{At: at, Many: many})
		}
	}
	for _, a := range all {
		for _, b := range all {
			wantWhole(t, 0, few, []api.Extent{a, b})
			wantWhole(t, 2, 5, []api.Extent{a, b})
			apart := a.At+a.Many <= b.At || b.At+b.Many <= a.At
			want := api.ErrBad
			if apart {
				want = api.OK
			}
			wantCheck(t, "two extents", []api.Extent{a, b}, want)
		}
	}
}

func TestWhatFollowsAtTheEnd(t *testing.T) { // P4.4: the same where blocks end
	for bits := range 1 << few {
		used := runs(bits, max-few)
		from := max - few - 1
		free, e := room.Free(from, max, used)
		if e != api.OK || !slices.Equal(free, plain(from, max, used)) {
			t.Fatalf("Free(%d, MaxBlocks, %v): %v, error %d", from, used, free, e)
		}
		got, e := room.Take(from, max, used, sum(free))
		if e != api.OK || !slices.Equal(got, free) {
			t.Fatalf("Take of all of %v: %v, error %d", free, got, e)
		}
		if got, e := room.Take(from, max, used, sum(free)+1); e != api.ErrRoom || len(got) != 0 {
			t.Fatalf("Take of one more than %v: %v, error %d", free, got, e)
		}
	}
}

func TestTakenAgainAndAgain(t *testing.T) { // P4.4: blocks are taken until there are none left, each of them once
	used := ones(3, 5, 20)
	taken := 0
	for many := 1; ; many = many%7 + 1 {
		got, e := room.Take(0, 128, used, many)
		if e == api.ErrRoom {
			free, _ := room.Free(0, 128, used)
			if sum(free) >= many || sum(free)+taken != 108 {
				t.Errorf("refused %d, though %v are free and %d taken", many, free, taken)
			}
			return
		}
		if e != api.OK || sum(got) != many {
			t.Fatalf("Take of %d: %v, error %d", many, got, e)
		}
		used = append(used, got...)
		taken += many
		if e := room.Check(used); e != api.OK {
			t.Fatalf("a block was taken twice: %v, error %d", used, e)
		}
	}
}
