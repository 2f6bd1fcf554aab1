package room_test

import (
	"slices"
	"testing"

	"millhand/api"
	"millhand/room"
)

// mark stands in the room behind a list, so that a write into it is seen.
var mark = api.Extent{At: -77, Many: -78}

// spared is a copy of l with room behind it that is filled.
func spared(l []api.Extent) []api.Extent {
	return append(slices.Clone(l), mark, mark, mark)[: len(l) : len(l)+3]
}

// unchanged tells whether what spared made of l is as it was, the room behind it too.
func unchanged(x, l []api.Extent) bool {
	return slices.Equal(x[:cap(x)], append(slices.Clone(l), mark, mark, mark))
}

// lists are those that are handed in: good ones, and ones that are refused.
func lists() [][]api.Extent {
	return [][]api.Extent{
		nil, of(4, 2), of(4, 2, 1, 1), of(9, 1, 8, 1, 0, 5), of(4, 2, 5, 3), of(4, 2, 6, 1), of(5, 3, 4, 2),
		of(0, 0), of(4, 2, max, 1), ones(0, 1, max), again(0, 1, max+1), ones(1, 2, max/2),
	}
}

func TestArgumentsAreOnlyRead(t *testing.T) { // P4.3
	for _, l := range lists() {
		x := spared(l)
		for name, call := range map[string]func(){
			"Check":  func() { room.Check(x) },
			"Many":   func() { room.Many(x) },
			"Blocks": func() { room.Blocks(x) },
			"Free":   func() { room.Free(0, max, x); room.Free(5, 5, x); room.Free(9, 3, x) },
			"Take": func() {
				room.Take(0, max, x, 1)
				room.Take(0, 12, x, 5)
				room.Take(0, 9, x, 0)
				room.Take(0, 9, x, 4000)
			},
		} {
			call()
			if !unchanged(x, l) {
				t.Errorf("%s changed %v", name, l)
				x = spared(l)
			}
		}
	}
}

// spoil writes over a list, and over the room behind it.
func spoil[T any](l []T, x T) {
	l = l[:cap(l)]
	for i := range l {
		l[i] = x
	}
}

func TestAnswersAreNewMemory(t *testing.T) { // P4.3: neither the arguments', nor another answer's
	used := of(4, 2, 6, 1)
	x := spared(used)
	free, _ := room.Free(2, 10, x)
	again, _ := room.Free(2, 10, x)
	taken, _ := room.Take(2, 10, x, 4)
	blocks, _ := room.Blocks(x)
	same, _ := room.Blocks(x)
	spoil(free, mark)
	if !slices.Equal(again, of(2, 2, 7, 3)) || !slices.Equal(taken, of(2, 2, 7, 2)) || !unchanged(x, used) {
		t.Errorf("what is free is not new memory: %v, %v, %v", again, taken, x)
	}
	spoil(taken, mark)
	if !slices.Equal(again, of(2, 2, 7, 3)) || !unchanged(x, used) {
		t.Errorf("what was taken is not new memory: %v, %v", again, x)
	}
	spoil(blocks, -5)
	if !slices.Equal(same, []int{4, 5, 6}) || !unchanged(x, used) {
		t.Errorf("blocks are not new memory: %v, %v", same, x)
	}
	spoil(x, api.Extent{At: 0, Many: 1})
	if !slices.Equal(again, of(2, 2, 7, 3)) || !slices.Equal(same, []int{4, 5, 6}) {
		t.Errorf("answers are the arguments' memory: %v, %v", again, same)
	}
}

func TestAnswersOfWholeExtentsAreNewMemory(t *testing.T) { // P4.3: also where an answer is what was handed in, or nothing of it is cut
	for _, l := range lists() {
		x := spared(l)
		free, _ := room.Free(0, max, x)
		spoil(free, mark)
		if taken, e := room.Take(0, max, x, max); e == api.OK {
			spoil(taken, mark)
		}
		blocks, _ := room.Blocks(x)
		spoil(blocks, -5)
		if !unchanged(x, l) {
			t.Errorf("an answer shares memory with %v", l)
		}
	}
}

func TestAnswersHangOnArgumentsAlone(t *testing.T) { // R2: no mark is left from call to call
	for range 3 {
		room.Check(of(0, max))
		room.Free(0, max, of(0, max))
		wantTake(t, "once more", 2, 10, of(4, 2, 5, 3), 3, of(2, 2, 8, 1), api.OK)
		wantFree(t, "once more", 0, max, nil, of(0, max), api.OK)
		wantCheck(t, "once more", of(4, 2, 6, 1), api.OK)
	}
}
