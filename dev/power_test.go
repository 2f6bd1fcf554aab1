package dev_test

import (
	"bytes"
	"testing"

	"millhand/api"
	"millhand/dev"
)

func TestDo(t *testing.T) { // P2.3
	d := api.Disk{Data: data(1, 2), Wait: []api.Put{put(0, 3)}, Done: []api.Act{write(0, 3)}}
	l := []api.Act{write(1, 4), write(0, 5), sync(), write(1, 6)}
	for many, want := range []api.Disk{
		{Data: data(1, 2), Wait: []api.Put{put(0, 3)}, Done: []api.Act{write(0, 3)}},
		{Data: data(1, 2), Wait: []api.Put{put(0, 3), put(1, 4)}, Done: []api.Act{write(0, 3), l[0]}},
		{Data: data(1, 2), Wait: []api.Put{put(0, 3), put(1, 4), put(0, 5)}, Done: []api.Act{write(0, 3), l[0], l[1]}},
		{Data: data(5, 4), Done: []api.Act{write(0, 3), l[0], l[1], l[2]}},
		{Data: data(5, 4), Wait: []api.Put{put(1, 6)}, Done: []api.Act{write(0, 3), l[0], l[1], l[2], l[3]}},
	} {
		if x, e := dev.Do(d, l, many); e != api.OK || !same(x, want) {
			t.Errorf("Do(%d): %v, error %d", many, x, e)
		}
	}
}

func TestDoRefuses(t *testing.T) { // P2.3
	d := api.Disk{Data: data(1, 2)}
	good := write(1, 1)
	beyond, short := write(2, 1), api.Act{Put: api.Put{Data: full(1)[:127]}}
	odd := api.Act{Sync: true, Put: api.Put{N: 1}}
	for name, c := range map[string]struct {
		l    []api.Act
		many int
		e    api.Errno
	}{
		"none of none":                    {nil, 0, api.OK},
		"none of an empty list":           {[]api.Act{}, 0, api.OK},
		"one of none":                     {nil, 1, api.ErrArg},
		"-1 of none":                      {nil, -1, api.ErrArg},
		"all":                             {[]api.Act{good, good}, 2, api.OK},
		"one more than all":               {[]api.Act{good, good}, 3, api.ErrArg},
		"-1 of some":                      {[]api.Act{good, good}, -1, api.ErrArg},
		"far too many":                    {[]api.Act{good}, 1 << 62, api.ErrArg},
		"far too few":                     {[]api.Act{good}, -1 << 63, api.ErrArg},
		"beyond the last block":           {[]api.Act{beyond}, 1, api.ErrArg},
		"below the first block":           {[]api.Act{write(-1, 1)}, 1, api.ErrArg},
		"beyond, not done":                {[]api.Act{good, beyond}, 1, api.ErrArg},
		"127 bytes":                       {[]api.Act{short}, 1, api.ErrText},
		"129 bytes":                       {[]api.Act{{Put: api.Put{Data: make([]byte, 129)}}}, 1, api.ErrText},
		"no bytes":                        {[]api.Act{{}}, 1, api.ErrText},
		"127 bytes, not done":             {[]api.Act{good, short}, 0, api.ErrText},
		"127 bytes, one more than all":    {[]api.Act{short}, 2, api.ErrText},
		"beyond, and no bytes":            {[]api.Act{{Put: api.Put{N: 2}}}, 1, api.ErrArg},
		"a sync with a number":            {[]api.Act{odd}, 1, api.ErrBad},
		"a sync with a number below 0":    {[]api.Act{{Sync: true, Put: api.Put{N: -1}}}, 1, api.ErrBad},
		"a sync with a number beyond":     {[]api.Act{{Sync: true, Put: api.Put{N: 2}}}, 1, api.ErrBad},
		"a sync with a byte":              {[]api.Act{{Sync: true, Put: api.Put{Data: []byte{0}}}}, 1, api.ErrBad},
		"a sync with a whole write":       {[]api.Act{{Sync: true, Put: put(0, 0)}}, 1, api.ErrBad},
		"a sync with empty data":          {[]api.Act{{Sync: true, Put: api.Put{Data: []byte{}}}}, 1, api.OK},
		"a sync with a number, not done":  {[]api.Act{good, odd}, 1, api.ErrBad},
		"a sync with a number, too many":  {[]api.Act{odd}, 2, api.ErrBad},
		"first the short, then the odd":   {[]api.Act{short, odd, beyond}, 3, api.ErrText},
		"first the odd, then the beyond":  {[]api.Act{good, odd, beyond, short}, 4, api.ErrBad},
		"first the beyond, then the rest": {[]api.Act{beyond, short, odd}, 3, api.ErrArg},
	} {
		x, e := dev.Do(d, c.l, c.many)
		if e != c.e || (e != api.OK && !nothing(x)) {
			t.Errorf("Do of %s: error %d, not %d", name, e, c.e)
		}
	}
}

func TestDoOfFull(t *testing.T) { // P2.3
	w, s := write(0, 1), sync()
	for name, c := range map[string]struct {
		wait, done int
		l          []api.Act
		many       int
		e          api.Errno
	}{
		"one done act is left":                    {0, maxActs - 1, []api.Act{w, w}, 1, api.OK},
		"one done act is left, two are done":      {0, maxActs - 1, []api.Act{w, w}, 2, api.ErrFull},
		"one done act is left, a sync, a write":   {0, maxActs - 1, []api.Act{s, w}, 2, api.ErrFull},
		"one done act is left, a write, a sync":   {0, maxActs - 1, []api.Act{w, s}, 2, api.ErrFull},
		"none is left, none is done":              {maxActs, maxActs, []api.Act{w, s}, 0, api.OK},
		"none is left, a sync":                    {0, maxActs, []api.Act{s}, 1, api.ErrFull},
		"all wait, a write":                       {maxActs, 0, []api.Act{w}, 1, api.ErrFull},
		"all wait, a sync, writes":                {maxActs, 0, []api.Act{s, w, w}, 3, api.OK},
		"one more may wait, writes":               {maxActs - 1, 0, []api.Act{w, w}, 2, api.ErrFull},
		"one more may wait, a write, a sync, one": {maxActs - 1, 0, []api.Act{w, s, w}, 3, api.OK},
		"as many as can be":                       {0, 0, acts(maxActs), maxActs, api.OK},
		"one more than can be":                    {0, 0, acts(maxActs + 1), maxActs + 1, api.ErrFull},
		"one more than can be, not done":          {0, 0, acts(maxActs + 1), maxActs, api.OK},
		"too many are asked, where all is full":   {maxActs, maxActs, []api.Act{w}, 2, api.ErrArg},
		"a bad act, where all is full":            {maxActs, maxActs, []api.Act{w, {}}, 1, api.ErrText},
	} {
		d := api.Disk{Data: data(0), Wait: puts(c.wait), Done: acts(c.done)}
		x, e := dev.Do(d, c.l, c.many)
		if e != c.e || (e == api.OK && len(x.Done) != c.done+c.many) || (e != api.OK && !nothing(x)) {
			t.Errorf("Do where %s: error %d, not %d", name, e, c.e)
		}
	}
}

func TestCrash(t *testing.T) { // P2.4
	d := api.Disk{Data: data(1, 2, 3), Wait: []api.Put{put(0, 4), put(2, 5), put(0, 6)}, Done: []api.Act{write(0, 4), sync()}}
	for i, c := range []struct {
		keep []bool
		want []byte
	}{
		{nil, []byte{1, 2, 3}},
		{[]bool{}, []byte{1, 2, 3}},
		{[]bool{false, false, false}, []byte{1, 2, 3}},
		{[]bool{true}, []byte{4, 2, 3}},
		{[]bool{true, false, false}, []byte{4, 2, 3}},
		{[]bool{false, true}, []byte{1, 2, 5}},
		{[]bool{false, false, true}, []byte{6, 2, 3}},
		{[]bool{true, false, true}, []byte{6, 2, 3}},
		{[]bool{true, true}, []byte{4, 2, 5}},
		{[]bool{true, true, true}, []byte{6, 2, 5}},
		{[]bool{false, true, true, true, true}, []byte{6, 2, 5}},
		{[]bool{false, false, false, true}, []byte{1, 2, 3}},
	} {
		if x, e := dev.Crash(d, c.keep); e != api.OK || !same(x, api.Disk{Data: data(c.want...)}) {
			t.Errorf("Crash %d: %v, error %d", i, x, e)
		}
	}
	calm := api.Disk{Data: data(1), Done: []api.Act{sync()}}
	if x, e := dev.Crash(calm, []bool{true}); e != api.OK || !same(x, api.Disk{Data: data(1)}) {
		t.Errorf("Crash where nothing waits: %v, error %d", x, e)
	}
}

func TestExamples(t *testing.T) { // the chapter's examples
	d, _ := dev.New(2)
	ok := must2(t)
	read := func(d api.Disk, n int, want byte) {
		t.Helper()
		if b, e := dev.Read(d, n); e != api.OK || !bytes.Equal(b, full(want)) {
			t.Errorf("Read(%d): %v, error %d", n, b, e)
		}
	}
	one := ok(dev.Write(d, 1, full(1)))
	read(one, 1, 1)
	read(ok(dev.Crash(one, nil)), 1, 0)
	read(ok(dev.Crash(one, []bool{true})), 1, 1)
	two := ok(dev.Write(ok(dev.Write(d, 0, full(1))), 0, full(2)))
	read(ok(dev.Crash(two, []bool{true, false})), 0, 1)
	calm := ok(dev.Sync(ok(dev.Write(d, 0, full(1)))))
	if len(calm.Wait) != 0 || !sameActs(calm.Done, []api.Act{write(0, 1), sync()}) {
		t.Errorf("a write and a Sync: %v", calm)
	}
	read(ok(dev.Crash(calm, nil)), 0, 1)
}

// scripts calls f with each row of so many acts out of l, at most.
func scripts(l []api.Act, most int, f func([]api.Act)) {
	var row []api.Act
	var grow func()
	grow = func() {
		f(row)
		if len(row) == most {
			return
		}
		for _, a := range l {
			row = append(row, a)
			grow()
			row = row[:len(row)-1]
		}
	}
	grow()
}

// plain is a disk of two blocks, by one byte each, as the chapter tells of it: what lasts, and the writes that wait.
type plain struct {
	lasts [2]byte
	wait  []api.Put
}

func (p plain) done(a api.Act) plain {
	if !a.Sync {
		return plain{p.lasts, append(append([]api.Put{}, p.wait...), a.Put)}
	}
	return plain{p.kept(^0), nil}
}

// kept is what lasts behind a loss of power that keeps the waits whose bits are set.
func (p plain) kept(bits int) [2]byte {
	l := p.lasts
	for i, w := range p.wait {
		if bits>>i&1 != 0 {
			l[w.N] = w.Data[0]
		}
	}
	return l
}

func keepOf(bits, many int) []bool {
	keep := make([]bool, many)
	for i := range keep {
		keep[i] = bits>>i&1 != 0
	}
	return keep
}

func TestWhatFollows(t *testing.T) { // P2.6: all short scripts, cut everywhere, with everything kept that can be
	menu := []api.Act{write(0, 1), write(0, 2), write(1, 3), sync()}
	first := api.Disk{Data: data(8, 9)}
	scripts(menu, 5, func(l []api.Act) {
		d := first
		p := plain{lasts: [2]byte{8, 9}}
		for _, a := range l {
			if a.Sync {
				d = must2(t)(dev.Sync(d))
			} else {
				d = must2(t)(dev.Write(d, a.Put.N, a.Put.Data))
			}
			p = p.done(a)
		}
		whole := p.kept(^0)
		for n, x := range whole { // what was written last is read
			if b, e := dev.Read(d, n); e != api.OK || !bytes.Equal(b, full(x)) {
				t.Fatalf("%v: Read(%d): %v, error %d", l, n, b, e)
			}
		}
		if !bytes.Equal(d.Data, data(p.lasts[:]...)) || len(d.Wait) != len(p.wait) {
			t.Fatalf("%v: it is %v", l, d)
		}
		if again, e := dev.Do(first, d.Done, len(d.Done)); e != api.OK || !same(again, d) { // done again
			t.Fatalf("%v: done again it is %v, error %d", l, again, e)
		}
		calm := must2(t)(dev.Sync(d))
		for bits := range 1 << len(d.Wait) {
			keep := keepOf(bits, len(d.Wait))
			x := must2(t)(dev.Crash(d, keep))
			want := p.kept(bits)
			if !same(x, api.Disk{Data: data(want[:]...)}) {
				t.Fatalf("%v: Crash(%v): %v", l, keep, x)
			}
			if y := must2(t)(dev.Crash(calm, keep)); !dev.Same(y, calm) || !bytes.Equal(y.Data, data(whole[:]...)) { // behind a sync nothing changes
				t.Fatalf("%v: behind a Sync: %v", l, y)
			}
		}
	})
}

func TestPowerFailsAgain(t *testing.T) { // P2.6, W2: cut anywhere, again, each block has what lasted or what some write that waited wrote
	l := []api.Act{write(0, 1), write(1, 2), write(0, 3), sync(), write(1, 4), write(0, 5), write(1, 6), sync(), write(0, 7)}
	may := func(x api.Disk, n int) [256]bool {
		var m [256]bool
		m[x.Data[n*api.Block]] = true
		for _, p := range x.Wait {
			if p.N == n {
				m[p.Data[0]] = true
			}
		}
		return m
	}
	var fail func(d api.Disk, depth int)
	fail = func(d api.Disk, depth int) {
		for many := range len(l) + 1 {
			cut := must2(t)(dev.Do(d, l, many))
			for bits := range 1 << len(cut.Wait) {
				x := must2(t)(dev.Crash(cut, keepOf(bits, len(cut.Wait))))
				for n := range 2 {
					b, e := dev.Read(x, n)
					if e != api.OK || !bytes.Equal(b, full(b[0])) || !may(cut, n)[b[0]] {
						t.Fatalf("cut at %d, kept %b: block %d is %v, error %d", many, bits, n, b, e)
					}
				}
				if depth > 0 {
					fail(x, depth-1)
				}
			}
		}
	}
	fail(api.Disk{Data: data(8, 9)}, 1)
}
