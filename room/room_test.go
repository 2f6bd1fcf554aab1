package room_test

import (
	"math"
	"slices"
	"testing"

	"millhand/api"
	"millhand/room"
)

func TestCheck(t *testing.T) { // P4.1
	for name, c := range map[string]struct {
		l    []api.Extent
		want api.Errno
	}{
		"none":                                  {nil, api.OK},
		"none, not nil":                         {[]api.Extent{}, api.OK},
		"two that only touch":                   {of(4, 2, 6, 1), api.OK},
		"two that only touch, falling":          {of(6, 1, 4, 2), api.OK},
		"two far from each other, falling":      {of(4000, 90, 0, 34), api.OK},
		"three that touch, in any order":        {of(5, 1, 6, 4090, 0, 5), api.OK},
		"the first block and the last":          {of(max-1, 1, 0, 1), api.OK},
		"two that are all blocks":               {of(0, 100, 100, max-100), api.OK},
		"two that meet in one block":            {of(4, 2, 5, 3), api.ErrBad},
		"two that meet in one block, falling":   {of(5, 3, 4, 2), api.ErrBad},
		"one twice":                             {of(7, 1, 7, 1), api.ErrBad},
		"one of many blocks twice":              {of(7, 9, 7, 9), api.ErrBad},
		"one in the midst of another":           {of(1, 5, 3, 1), api.ErrBad},
		"one around another":                    {of(3, 1, 1, 5), api.ErrBad},
		"two that begin alike":                  {of(3, 4, 3, 1), api.ErrBad},
		"two that end alike":                    {of(3, 4, 6, 1), api.ErrBad},
		"two that meet in the first block":      {of(0, 1, 0, 2), api.ErrBad},
		"two that meet in the last block":       {of(max-1, 1, max-2, 2), api.ErrBad},
		"the first and the third one meet":      {of(4, 2, 10, 2, 5, 1), api.ErrBad},
		"all blocks, and one of them":           {of(0, max, 77, 1), api.ErrBad},
		"one of no blocks inside another":       {of(4, 4, 5, 0), api.ErrBad},
		"MaxBlocks of one block each":           {ones(0, 1, max), api.OK},
		"MaxBlocks, falling":                    {ones(max-1, -1, max), api.OK},
		"MaxBlocks, the last one twice":         {append(ones(0, 1, max-1), of(max-2, 1)...), api.ErrBad},
		"MaxBlocks, the first one twice":        {append(ones(0, 1, max-1), of(0, 1)...), api.ErrBad},
		"MaxBlocks and one more":                {ones(0, 1, max+1), api.ErrMany},
		"one more, the same one again":          {again(0, 1, max+1), api.ErrMany},
		"one more, none of which may be":        {again(0, 0, max+1), api.ErrMany},
		"many more":                             {again(3, 1, 3*max), api.ErrMany},
		"MaxBlocks, none of which may be":       {again(0, 0, max), api.ErrBad},
		"MaxBlocks, the last one may not be":    {append(ones(0, 1, max-1), of(max, 1)...), api.ErrBad},
		"MaxBlocks of all blocks":               {again(0, max, max), api.ErrBad},
		"two of a half, and one block of both":  {of(0, max/2, max/2, max/2, max/2, 1), api.ErrBad},
		"every other block, then the ones left": {append(ones(0, 2, max/2), ones(1, 2, max/2)...), api.OK},
	} {
		wantCheck(t, name, c.l, c.want)
	}
}

func TestCheckOfOne(t *testing.T) { // P4.1: which extents may be, alone and beside others
	for name, x := range fine {
		wantCheck(t, name, []api.Extent{x}, api.OK)
	}
	for name, x := range odd {
		wantCheck(t, name, []api.Extent{x}, api.ErrBad)
		wantCheck(t, name+", first", []api.Extent{x, {At: 50, Many: 2}}, api.ErrBad)
		wantCheck(t, name+", last", []api.Extent{{At: 50, Many: 2}, {At: 60, Many: 2}, x}, api.ErrBad)
		wantCheck(t, name+", behind two that meet", []api.Extent{{At: 50, Many: 2}, {At: 51, Many: 2}, x}, api.ErrBad)
	}
	for at := -3; at <= 3; at++ { // each pair around the edges
		for many := -2; many <= 3; many++ {
			for _, x := range []api.Extent{{At: at, Many: many}, {At: max + at, Many: many}, {At: at, Many: max + many}, {At: max / 2, Many: max/2 + many}} {
				want := api.ErrBad
				if x.At >= 0 && x.Many >= 1 && x.At+x.Many <= max {
					want = api.OK
				}
				wantCheck(t, "a pair around the edges", []api.Extent{x}, want)
			}
		}
	}
}

func TestBlocksKeepTheExtentsOrder(t *testing.T) { // P4.1: extent by extent, rising in each
	for _, c := range []struct {
		l    []api.Extent
		want []int
	}{
		{of(4, 2, 1, 1), []int{4, 5, 1}},
		{of(9, 3, 0, 1, 7, 2), []int{9, 10, 11, 0, 7, 8}},
		{of(max-2, 2, 0, 2), []int{max - 2, max - 1, 0, 1}},
		{of(5, 1), []int{5}},
	} {
		b, e := room.Blocks(c.l)
		n, f := room.Many(c.l)
		if e != api.OK || f != api.OK || n != len(c.want) || !slices.Equal(b, c.want) {
			t.Errorf("%v: %v, error %d, %d of them, error %d", c.l, b, e, n, f)
		}
	}
	b, e := room.Blocks(of(0, max))
	if e != api.OK || len(b) != max || b[0] != 0 || b[max-1] != max-1 || !slices.IsSorted(b) {
		t.Errorf("all blocks: %d of them, error %d", len(b), e)
	}
}

func TestFree(t *testing.T) { // P4.2
	for name, c := range map[string]struct {
		from, to   int
		used, want []api.Extent
	}{
		"no used ones":                        {0, 10, nil, of(0, 10)},
		"no used ones, not nil":               {0, 10, []api.Extent{}, of(0, 10)},
		"a whole disk":                        {0, max, nil, of(0, max)},
		"a disk's files":                      {34, max, nil, of(34, max-34)},
		"one block":                           {5, 6, nil, of(5, 1)},
		"one block that is used":              {5, 6, of(5, 1), nil},
		"the first block":                     {0, 1, nil, of(0, 1)},
		"the last block":                      {max - 1, max, nil, of(max-1, 1)},
		"the last block, used up to it":       {4090, max, of(0, max-1), of(max-1, 1)},
		"the last block is used":              {4090, max, of(max-1, 1), of(4090, 5)},
		"from and to equal":                   {5, 5, nil, nil},
		"from and to equal, a used one there": {5, 5, of(4, 3), nil},
		"from and to 0":                       {0, 0, nil, nil},
		"from and to MaxBlocks":               {max, max, of(0, max), nil},
		"all is used, by one":                 {2, 10, of(2, 8), nil},
		"all is used, by one beyond both":     {2, 10, of(0, 20), nil},
		"all is used, by many":                {2, 6, of(5, 1, 3, 1, 2, 1, 4, 1), nil},
		"all is used, a whole disk":           {0, max, of(0, max), nil},
		"all but the first":                   {2, 10, of(3, 7), of(2, 1)},
		"all but the last":                    {2, 10, of(2, 7), of(9, 1)},
		"used ones that overlap":              {2, 10, of(4, 2, 5, 3), of(2, 2, 8, 2)},
		"used ones that overlap, falling":     {2, 10, of(5, 3, 4, 2), of(2, 2, 8, 2)},
		"one used one twice":                  {2, 10, of(4, 2, 4, 2), of(2, 2, 6, 4)},
		"one used one inside another":         {2, 10, of(3, 5, 4, 1), of(2, 1, 8, 2)},
		"used ones that touch":                {2, 10, of(4, 2, 6, 2), of(2, 2, 8, 2)},
		"used ones outside, below":            {2, 10, of(0, 2), of(2, 8)},
		"used ones outside, above":            {2, 10, of(10, 5), of(2, 8)},
		"used ones outside, on both sides":    {2, 10, of(0, 1, 4000, 96, 10, 1, 1, 1), of(2, 8)},
		"a used one over the lower end":       {2, 10, of(0, 3), of(3, 7)},
		"a used one over the upper end":       {2, 10, of(9, 2), of(2, 7)},
		"used ones over both ends":            {2, 10, of(9, 9, 0, 4), of(4, 5)},
		"every other block, from the first":   {0, 6, of(0, 1, 2, 1, 4, 1), of(1, 1, 3, 1, 5, 1)},
		"every other block, from the second":  {0, 6, of(5, 1, 3, 1, 1, 1), of(0, 1, 2, 1, 4, 1)},
		"every other block of a disk":         {0, max, ones(1, 2, max/2), ones(0, 2, max/2)},
		"MaxBlocks used ones, all over":       {0, max, ones(0, 1, max), nil},
		"MaxBlocks used ones, one of them":    {0, 9, again(4, 2, max), of(0, 4, 6, 3)},
		"MaxBlocks used ones, all blocks":     {0, max, again(0, max, max), nil},
	} {
		wantFree(t, name, c.from, c.to, c.used, c.want, api.OK)
		if want := plain(c.from, c.to, c.used); !slices.Equal(want, c.want) {
			t.Errorf("%s: the chapter's words tell %v", name, want)
		}
	}
	for name, x := range fine {
		used := []api.Extent{x}
		wantFree(t, name, 0, max, used, plain(0, max, used), api.OK)
		wantFree(t, name, 34, 64, used, plain(34, 64, used), api.OK)
	}
}

// spans are pairs of blocks between which nothing can be.
var spans = map[string][2]int{
	"from below 0":                     {-1, 5},
	"from below 0, and to as much":     {-1, -1},
	"from below 0, to 0":               {-1, 0},
	"from beyond to":                   {3, 2},
	"from 1, to 0":                     {1, 0},
	"from 0, to below":                 {0, -1},
	"to beyond MaxBlocks":              {0, max + 1},
	"from MaxBlocks, to beyond":        {max, max + 1},
	"both beyond MaxBlocks":            {max + 1, max + 1},
	"from beyond MaxBlocks, to it":     {max + 1, max},
	"the least, and 5":                 {math.MinInt, 5},
	"the greatest, and 5":              {math.MaxInt, 5},
	"5, and the greatest":              {5, math.MaxInt},
	"5, and the least":                 {5, math.MinInt},
	"the least, and the greatest":      {math.MinInt, math.MaxInt},
	"the greatest, and the least":      {math.MaxInt, math.MinInt},
	"the greatest twice":               {math.MaxInt, math.MaxInt},
	"the least twice":                  {math.MinInt, math.MinInt},
	"to 2^32 and some, as if it wraps": {0, 1<<32 + 9},
}

func TestFreeErrors(t *testing.T) { // P4.2, in the order in which they are looked for; Take has them, too, ahead of its own
	both := func(name string, from, to int, used []api.Extent, want api.Errno) {
		t.Helper()
		wantFree(t, name, from, to, used, nil, want)
		for _, many := range []int{1, 0, -1, max + 1, 4000} {
			wantTake(t, name, from, to, used, many, nil, want)
		}
	}
	for name, s := range spans {
		both(name, s[0], s[1], nil, api.ErrArg)
		both(name+", and a used one", s[0], s[1], of(0, 1), api.ErrArg)
		both(name+", and a bad used one", s[0], s[1], of(0, 0), api.ErrArg)
		both(name+", and too many used ones", s[0], s[1], ones(0, 0, max+1), api.ErrArg)
	}
	both("one used one too many", 0, 9, again(4, 2, max+1), api.ErrMany)
	both("one used one too many, from and to equal", 9, 9, again(4, 2, max+1), api.ErrMany)
	both("too many used ones, none of which may be", 0, 9, again(0, 0, max+1), api.ErrMany)
	for name, x := range odd {
		both(name, 0, 9, []api.Extent{x}, api.ErrBad)
		both(name+", from and to equal", 9, 9, []api.Extent{x}, api.ErrBad)
		both(name+", behind others", 0, max, append(of(4, 2, 5, 3), x), api.ErrBad)
		both(name+", ahead of others", 0, max, append([]api.Extent{x}, of(4, 2, 5, 3)...), api.ErrBad)
		both(name+", the last of MaxBlocks", 0, max, append(again(5, 1, max-1), x), api.ErrBad)
	}
}

func TestTake(t *testing.T) { // P4.2
	for name, c := range map[string]struct {
		from, to int
		used     []api.Extent
		many     int
		want     []api.Extent
		e        api.Errno
	}{
		"some of one":                            {0, 10, nil, 3, of(0, 3), api.OK},
		"one of one":                             {0, 10, nil, 1, of(0, 1), api.OK},
		"all of one":                             {0, 10, nil, 10, of(0, 10), api.OK},
		"one more than all of one":               {0, 10, nil, 11, nil, api.ErrRoom},
		"all but one of one":                     {0, 10, nil, 9, of(0, 9), api.OK},
		"the first block of two extents":         {2, 10, of(4, 2, 5, 3), 1, of(2, 1), api.OK},
		"the first extent of two, whole":         {2, 10, of(4, 2, 5, 3), 2, of(2, 2), api.OK},
		"the second one cut":                     {2, 10, of(4, 2, 5, 3), 3, of(2, 2, 8, 1), api.OK},
		"two whole ones":                         {2, 10, of(4, 2, 5, 3), 4, of(2, 2, 8, 2), api.OK},
		"one more than in two":                   {2, 10, of(4, 2, 5, 3), 5, nil, api.ErrRoom},
		"three of one block each":                {0, 6, of(0, 1, 2, 1, 4, 1), 3, of(1, 1, 3, 1, 5, 1), api.OK},
		"two of three":                           {0, 6, of(0, 1, 2, 1, 4, 1), 2, of(1, 1, 3, 1), api.OK},
		"four of three":                          {0, 6, of(0, 1, 2, 1, 4, 1), 4, nil, api.ErrRoom},
		"the lowest, not the one that fits best": {0, 20, of(9, 1, 12, 1), 2, of(0, 2), api.OK},
		"the lowest, not the one that fits":      {0, 20, of(3, 1), 10, of(0, 3, 4, 7), api.OK},
		"the last block of a disk":               {4090, max, of(0, max-1), 1, of(max-1, 1), api.OK},
		"the last block of a disk, and one":      {4090, max, of(0, max-1), 2, nil, api.ErrRoom},
		"a whole disk":                           {0, max, nil, max, of(0, max), api.OK},
		"a whole disk but one":                   {0, max, nil, max - 1, of(0, max-1), api.OK},
		"a whole disk, one used":                 {0, max, of(7, 1), max, nil, api.ErrRoom},
		"all free ones of a disk, one used":      {0, max, of(7, 1), max - 1, of(0, 7, 8, max-8), api.OK},
		"a disk's files":                         {34, max, nil, max - 34, of(34, max-34), api.OK},
		"one more than a disk's files":           {34, max, nil, max - 33, nil, api.ErrRoom},
		"every other block":                      {0, max, ones(1, 2, max/2), max / 2, ones(0, 2, max/2), api.OK},
		"every other block, and one":             {0, max, ones(1, 2, max/2), max/2 + 1, nil, api.ErrRoom},
		"of nothing, from and to equal":          {5, 5, nil, 1, nil, api.ErrRoom},
		"of nothing, at MaxBlocks":               {max, max, nil, 1, nil, api.ErrRoom},
		"of nothing, all is used":                {2, 10, of(0, 20), 1, nil, api.ErrRoom},
		"MaxBlocks of few":                       {0, 9, nil, max, nil, api.ErrRoom},
		"MaxBlocks of nothing":                   {0, 0, nil, max, nil, api.ErrRoom},
		"none":                                   {0, 9, nil, 0, nil, api.ErrArg},
		"none of nothing":                        {0, 0, nil, 0, nil, api.ErrArg},
		"fewer than none":                        {0, 9, nil, -1, nil, api.ErrArg},
		"the least":                              {0, 9, nil, math.MinInt, nil, api.ErrArg},
		"one more than MaxBlocks":                {0, 9, nil, max + 1, nil, api.ErrArg},
		"one more than MaxBlocks of a disk":      {0, max, nil, max + 1, nil, api.ErrArg},
		"the greatest":                           {0, max, nil, math.MaxInt, nil, api.ErrArg},
		"2^32 and one":                           {0, max, nil, 1<<32 + 1, nil, api.ErrArg},
		"none, where used ones overlap":          {2, 10, of(4, 2, 5, 3), 0, nil, api.ErrArg},
		"one more than MaxBlocks, all used":      {2, 10, of(0, max), max + 1, nil, api.ErrArg},
	} {
		wantTake(t, name, c.from, c.to, c.used, c.many, c.want, c.e)
	}
}

func TestExamples(t *testing.T) { // the chapter's examples
	wantFree(t, "example", 2, 10, of(4, 2, 5, 3, 9, 9), of(2, 2, 8, 1), api.OK)
	wantTake(t, "example", 2, 10, of(4, 2, 5, 3), 3, of(2, 2, 8, 1), api.OK)
	wantTake(t, "example", 2, 10, of(4, 2, 5, 3), 5, nil, api.ErrRoom)
	wantTake(t, "example", 2, 10, of(4, 2, 5, 3), 4, of(2, 2, 8, 2), api.OK)
	wantCheck(t, "example", of(4, 2, 5, 3), api.ErrBad)
	wantCheck(t, "example", of(4, 2, 6, 1), api.OK)
	wantCheck(t, "example", of(0, 0), api.ErrBad)
	if b, e := room.Blocks(of(4, 2, 1, 1)); e != api.OK || !slices.Equal(b, []int{4, 5, 1}) {
		t.Errorf("example: Blocks: %v, error %d", b, e)
	}
	wantFree(t, "example", 3, 2, nil, nil, api.ErrArg)
	wantTake(t, "example", 0, 9, nil, 0, nil, api.ErrArg)
}
