package super_test

import (
	"bytes"
	"testing"

	"millhand/api"
	"millhand/dev"
	"millhand/super"
)

func TestLatest(t *testing.T) { // P3.2
	noughts := full(0)
	for name, c := range map[string]struct {
		zero, one []byte
		want      told
	}{
		"noughts":                           {noughts, noughts, none},
		"one superblock, 0":                 {made(2, 7), noughts, told{2, 7, api.OK}},
		"one superblock, 1":                 {noughts, made(1, 7), told{1, 7, api.OK}},
		"of size 0":                         {noughts, made(1, 0), told{1, 0, api.OK}},
		"of the greatest size":              {made(2, maxSize), noughts, told{2, maxSize, api.OK}},
		"the later one in 1":                {made(2, 20), made(3, 30), told{3, 30, api.OK}},
		"the later one in 0":                {made(4, 40), made(3, 30), told{4, 40, api.OK}},
		"the later one of size 0, in 0":     {made(4, 0), made(3, 30), told{4, 0, api.OK}},
		"the later one of size 0, in 1":     {made(4, 40), made(5, 0), told{5, 0, api.OK}},
		"of one size":                       {made(4, 40), made(5, 40), told{5, 40, api.OK}},
		"gens far apart, 0":                 {made(1000, 1), made(3, 2), told{1000, 1, api.OK}},
		"gens far apart, 1":                 {made(2, 1), made(1001, 2), told{1001, 2, api.OK}},
		"the greatest gen, and the next":    {made(greatest-1, 1), made(greatest, 2), told{greatest, 2, api.OK}},
		"the greatest gen and the least":    {made(2, 1), made(greatest, 2), told{greatest, 2, api.OK}},
		"a great gen and the least":         {made(greatest-1, 1), made(1, 2), told{greatest - 1, 1, api.OK}},
		"gens on both sides of 31 bits":     {made(1<<31, 1), made(1<<31-1, 2), told{1 << 31, 1, api.OK}},
		"gens whose bytes rise the other":   {made(256, 1), made(255, 2), told{256, 1, api.OK}},
		"an even one in 1 alone":            {noughts, made(4, 1), none},
		"an odd one in 0 alone":             {made(3, 1), noughts, none},
		"both in the other one's slot":      {made(3, 1), made(4, 1), none},
		"a later one in the wrong slot 0":   {made(5, 1), made(3, 2), told{3, 2, api.OK}},
		"a later one in the wrong slot 1":   {made(2, 1), made(6, 2), told{2, 1, api.OK}},
		"equal even gens":                   {made(4, 1), made(4, 2), told{4, 1, api.OK}},
		"equal odd gens":                    {made(5, 1), made(5, 2), told{5, 2, api.OK}},
		"equal greatest gens":               {made(greatest, 1), made(greatest, 2), told{greatest, 2, api.OK}},
		"gen 0 alone":                       {made(0, 5), noughts, none},
		"gen 0, and one":                    {made(0, 5), made(1, 6), told{1, 6, api.OK}},
		"a size beyond, alone":              {made(2, maxSize+1), noughts, none},
		"a size beyond in the later one, 0": {made(4, maxSize+1), made(3, 2), told{3, 2, api.OK}},
		"a size beyond in the later one, 1": {made(4, 1), made(5, 1<<31), told{4, 1, api.OK}},
		"a byte behind the size, 0":         {append(made(4, 1)[:127], 1), made(3, 2), told{3, 2, api.OK}},
		"a byte behind the size, 1":         {made(2, 1), append(made(3, 2)[:8], full(9)[:120]...), told{2, 1, api.OK}},
		"bytes of all kinds":                {full(255), full(1), none},
	} {
		for _, many := range []int{35, 36, 40, api.MaxBlocks} {
			if got := latest(store(many, c.zero, c.one)); got != c.want {
				t.Errorf("Latest of %s, on %d blocks: %v, not %v", name, many, got, c.want)
			}
		}
		for _, many := range []int{2, 3, 33, 34} { // First blocks or fewer
			if got := latest(store(many, c.zero, c.one)); got != none {
				t.Errorf("Latest of %s, on %d blocks: %v", name, many, got)
			}
		}
	}
	if got := latest(api.Disk{Data: made(2, 7)}); got != none {
		t.Errorf("Latest of a disk of one block: %v", got)
	}
}

func TestLatestLooksAtTwoBlocksOnly(t *testing.T) { // P3.2: a superblock in another block is none of the disk's
	for n := 2; n < 36; n++ {
		for gen := uint32(8); gen < 10; gen++ {
			d := store(36, made(2, 20), made(3, 30))
			copy(d.Data[n*api.Block:], made(gen, 80))
			if got := latest(d); got != (told{3, 30, api.OK}) {
				t.Errorf("the gen %d in block %d: %v", gen, n, got)
			}
			d = store(36, nil, nil)
			copy(d.Data[n*api.Block:], made(gen, 80))
			if got := latest(d); got != none {
				t.Errorf("the gen %d in block %d alone: %v", gen, n, got)
			}
		}
	}
}

func TestWhatWaitsCountsForNothing(t *testing.T) { // P3.2
	d := small(made(2, 20), made(3, 30))
	for name, w := range map[string][]api.Put{
		"noughts over the later one": {{N: 1, Data: full(0)}},
		"noughts over both":          {{N: 0, Data: full(0)}, {N: 1, Data: full(0)}},
		"bytes over both":            {{N: 1, Data: full(7)}, {N: 0, Data: full(8)}},
		"a later one":                {{N: 0, Data: made(4, 40)}},
		"a later one over the later": {{N: 1, Data: made(5, 50)}},
		"later ones over both":       {{N: 0, Data: made(4, 40)}, {N: 1, Data: made(5, 50)}},
		"an earlier one":             {{N: 1, Data: made(1, 10)}},
		"the same one, another size": {{N: 1, Data: made(3, 31)}},
		"one in the wrong slot":      {{N: 1, Data: made(8, 80)}, {N: 0, Data: made(9, 90)}},
		"writes of other blocks":     {{N: 2, Data: full(1)}, {N: 34, Data: full(2)}},
	} {
		x := api.Disk{Data: d.Data, Wait: w}
		if got := latest(x); got != (told{3, 30, api.OK}) {
			t.Errorf("%s wait: %v", name, got)
		}
		bare := api.Disk{Data: small(nil, nil).Data, Wait: w}
		if got := latest(bare); got != none {
			t.Errorf("%s wait over noughts: %v", name, got)
		}
		var done []api.Act
		for _, p := range w {
			done = append(done, api.Act{Put: p})
		}
		if got := latest(api.Disk{Data: d.Data, Done: done}); got != (told{3, 30, api.OK}) {
			t.Errorf("%s were done: %v", name, got)
		}
	}
	x := must(t)(dev.Sync(turned(t, d, 4, 40)))
	if got := latest(x); got != (told{4, 40, api.OK}) {
		t.Errorf("a later one, synced: %v", got)
	}
}

func TestLatestOfDisksThatMayNotBe(t *testing.T) { // P3.2: dev.Check's error, ahead of all others
	good, few := small(made(2, 20), made(3, 30)), store(34, made(2, 20), made(3, 30))
	odd := api.Act{Sync: true, Put: api.Put{N: 1}}
	for name, d := range map[string]api.Disk{
		"no data":                         {},
		"no data, not nil":                {Data: []byte{}},
		"a byte less than a block":        {Data: made(2, 20)[:127]},
		"a byte more than two blocks":     {Data: good.Data[:257]},
		"a byte less than 35 blocks":      {Data: good.Data[:35*128-1]},
		"a byte more than 34 blocks":      {Data: good.Data[:34*128+1]},
		"a byte more than MaxBlocks":      {Data: append(store(api.MaxBlocks, made(2, 20), nil).Data, 0)},
		"a block more than MaxBlocks":     store(api.MaxBlocks+1, made(2, 20), nil),
		"a wait beyond the last block":    {Data: good.Data, Wait: []api.Put{{N: 35, Data: full(1)}}},
		"a wait below the first block":    {Data: good.Data, Wait: []api.Put{{N: -1, Data: full(1)}}},
		"a wait of 127 bytes":             {Data: good.Data, Wait: []api.Put{{N: 1, Data: full(1)[:127]}}},
		"a wait of no bytes":              {Data: good.Data, Wait: []api.Put{{}}},
		"a done write beyond":             {Data: good.Data, Done: []api.Act{{Put: api.Put{N: 35, Data: full(1)}}}},
		"a done write of 129 bytes":       {Data: good.Data, Done: []api.Act{{Put: api.Put{Data: make([]byte, 129)}}}},
		"a sync with a number":            {Data: good.Data, Done: []api.Act{odd}},
		"a bad wait on few blocks":        {Data: few.Data, Wait: []api.Put{{}}},
		"a bad act on few blocks":         {Data: few.Data, Done: []api.Act{odd}},
		"a bad wait, and no superblock":   {Data: small(nil, nil).Data, Wait: []api.Put{{}}},
		"one more wait than there may be": {Data: good.Data, Wait: many(65537)},
	} {
		if got := latest(d); got != (told{e: api.ErrDisk}) || dev.Check(d) != api.ErrDisk {
			t.Errorf("Latest of %s: %v", name, got)
		}
	}
	if got := latest(api.Disk{Data: good.Data, Wait: many(65536)}); got != (told{3, 30, api.OK}) {
		t.Errorf("Latest of as many waits as there may be: %v", got)
	}
}

// many are so many writes over the superblock 1.
func many(n int) []api.Put {
	b := full(5)
	l := make([]api.Put, n)
	for i := range l {
		l[i] = api.Put{N: 1, Data: b}
	}
	return l
}

func TestExamples(t *testing.T) { // the chapter's examples
	if b, e := super.Block(258, 5); e != api.OK || !bytes.Equal(b, append([]byte{2, 1, 0, 0, 5, 0, 0, 0}, make([]byte, 120)...)) {
		t.Errorf("Block(258, 5): %v, error %d", b, e)
	}
	for gen, want := range map[uint32][2]int{4: {0, 2}, 5: {1, 18}} {
		if slot, area := super.Where(gen); slot != want[0] || area != want[1] {
			t.Errorf("Where(%d): %d, %d", gen, slot, area)
		}
	}
	if _, e := super.Block(0, 5); e != api.ErrArg {
		t.Errorf("Block(0, 5): error %d", e)
	}
	if _, e := super.Block(1, 2049); e != api.ErrArg {
		t.Errorf("Block(1, 2049): error %d", e)
	}
	four := small(nil, nil)
	copy(four.Data[api.Block:], made(4, 1))
	fresh, _ := dev.New(35)
	for i, c := range []struct{ got, want told }{
		{of(full(0)), told{e: api.ErrBad}},
		{latest(fresh), none},
		{latest(small(made(2, 8), made(3, 9))), told{3, 9, api.OK}},
		{latest(four), none},
	} {
		if c.got != c.want {
			t.Errorf("%d: %v, not %v", i, c.got, c.want)
		}
	}
}
