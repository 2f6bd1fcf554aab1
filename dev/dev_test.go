package dev_test

import (
	"bytes"
	"testing"

	"millhand/api"
	"millhand/dev"
)

func TestNew(t *testing.T) { // P2.1
	for _, n := range []int{1, 2, 35, api.MaxBlocks - 1, api.MaxBlocks} {
		d, e := dev.New(n)
		if e != api.OK || !same(d, api.Disk{Data: make([]byte, n*api.Block)}) {
			t.Errorf("New(%d): %d bytes, %d wait, %d done, error %d", n, len(d.Data), len(d.Wait), len(d.Done), e)
		}
		if e := dev.Check(d); e != api.OK {
			t.Errorf("New(%d), checked: %d", n, e)
		}
	}
	for _, n := range []int{0, -1, api.MaxBlocks + 1, 1 << 62, -1 << 63} {
		if d, e := dev.New(n); e != api.ErrDisk || !nothing(d) {
			t.Errorf("New(%d): error %d", n, e)
		}
	}
}

func TestCheckAndMany(t *testing.T) { // P2.1
	two := data(0, 0)
	for name, c := range map[string]struct {
		d    api.Disk
		many int
	}{
		"one block":                 {api.Disk{Data: data(9)}, 1},
		"MaxBlocks":                 {api.Disk{Data: make([]byte, api.MaxBlocks*api.Block)}, api.MaxBlocks},
		"waits in both ends":        {api.Disk{Data: two, Wait: []api.Put{put(0, 1), put(1, 2), put(0, 3)}}, 2},
		"acts of both kinds":        {api.Disk{Data: two, Done: []api.Act{write(0, 1), sync(), write(1, 1), sync()}}, 2},
		"a sync with empty data":    {api.Disk{Data: two, Done: []api.Act{{Sync: true, Put: api.Put{Data: []byte{}}}}}, 2},
		"done and waiting differ":   {api.Disk{Data: two, Wait: []api.Put{put(0, 1)}, Done: []api.Act{sync()}}, 2},
		"MaxActs writes that wait":  {api.Disk{Data: two, Wait: puts(maxActs)}, 2},
		"MaxActs acts that were":    {api.Disk{Data: two, Done: acts(maxActs)}, 2},
		"lists empty, but not nil":  {api.Disk{Data: two, Wait: []api.Put{}, Done: []api.Act{}}, 2},
		"MaxActs of both at a time": {api.Disk{Data: two, Wait: puts(maxActs), Done: acts(maxActs)}, 2},
	} {
		if e := dev.Check(c.d); e != api.OK {
			t.Errorf("Check of %s: %d", name, e)
		}
		if n, e := dev.Many(c.d); n != c.many || e != api.OK {
			t.Errorf("Many of %s: %d, error %d", name, n, e)
		}
	}
	for name, d := range bad() {
		if e := dev.Check(d); e != api.ErrDisk {
			t.Errorf("Check of %s: %d", name, e)
		}
	}
}

func TestBadDiskIsToldFirst(t *testing.T) { // P2.1 to P2.4: Check's error comes ahead of all others
	for name, d := range bad() {
		if n, e := dev.Many(d); n != 0 || e != api.ErrDisk {
			t.Errorf("Many of %s: %d, error %d", name, n, e)
		}
		for _, n := range []int{0, -1, 9999} {
			if b, e := dev.Read(d, n); b != nil || e != api.ErrDisk {
				t.Errorf("Read(%d) of %s: %d bytes, error %d", n, name, len(b), e)
			}
			for _, b := range [][]byte{full(1), full(1)[:127]} {
				if x, e := dev.Write(d, n, b); !nothing(x) || e != api.ErrDisk {
					t.Errorf("Write(%d) of %s: error %d", n, name, e)
				}
			}
		}
		for what, f := range map[string]func() (api.Disk, api.Errno){
			"Sync":                       func() (api.Disk, api.Errno) { return dev.Sync(d) },
			"Clear":                      func() (api.Disk, api.Errno) { return dev.Clear(d) },
			"Crash":                      func() (api.Disk, api.Errno) { return dev.Crash(d, nil) },
			"Crash that keeps":           func() (api.Disk, api.Errno) { return dev.Crash(d, []bool{true, true}) },
			"Do of nothing":              func() (api.Disk, api.Errno) { return dev.Do(d, nil, 0) },
			"Do of one more":             func() (api.Disk, api.Errno) { return dev.Do(d, nil, 1) },
			"Do of an act that may not":  func() (api.Disk, api.Errno) { return dev.Do(d, []api.Act{{}}, 1) },
			"Do of a sync that may not":  func() (api.Disk, api.Errno) { return dev.Do(d, []api.Act{{Sync: true, Put: put(0, 1)}}, 1) },
			"Do of a write of the first": func() (api.Disk, api.Errno) { return dev.Do(d, []api.Act{write(0, 1)}, 1) },
		} {
			if x, e := f(); !nothing(x) || e != api.ErrDisk {
				t.Errorf("%s of %s: error %d", what, name, e)
			}
		}
	}
}

func TestSame(t *testing.T) { // P2.1
	one := api.Disk{Data: data(1, 2), Wait: []api.Put{put(0, 1), put(1, 2)}, Done: []api.Act{write(0, 1)}}
	for name, c := range map[string]struct {
		b    api.Disk
		want bool
	}{
		"itself":                {one, true},
		"equal, other memory":   {api.Disk{Data: data(1, 2), Wait: []api.Put{put(0, 1), put(1, 2)}, Done: []api.Act{write(0, 1)}}, true},
		"nothing done":          {api.Disk{Data: data(1, 2), Wait: one.Wait}, true},
		"other acts done":       {api.Disk{Data: data(1, 2), Wait: one.Wait, Done: []api.Act{sync(), {Sync: true, Put: put(9, 9)}}}, true},
		"other data":            {api.Disk{Data: data(1, 3), Wait: one.Wait, Done: one.Done}, false},
		"more data":             {api.Disk{Data: data(1, 2, 0), Wait: one.Wait, Done: one.Done}, false},
		"fewer waits":           {api.Disk{Data: data(1, 2), Wait: one.Wait[:1], Done: one.Done}, false},
		"more waits":            {api.Disk{Data: data(1, 2), Wait: []api.Put{put(0, 1), put(1, 2), put(1, 2)}}, false},
		"other order of waits":  {api.Disk{Data: data(1, 2), Wait: []api.Put{put(1, 2), put(0, 1)}}, false},
		"a wait's other number": {api.Disk{Data: data(1, 2), Wait: []api.Put{put(1, 1), put(1, 2)}}, false},
		"a wait's other bytes":  {api.Disk{Data: data(1, 2), Wait: []api.Put{put(0, 1), put(1, 3)}}, false},
		"a wait's fewer bytes":  {api.Disk{Data: data(1, 2), Wait: []api.Put{put(0, 1), {N: 1, Data: full(2)[:127]}}}, false},
		"nothing at all":        {api.Disk{}, false},
	} {
		if dev.Same(one, c.b) != c.want || dev.Same(c.b, one) != c.want {
			t.Errorf("Same of %s: not %t", name, c.want)
		}
	}
	for name, d := range bad() { // any ones, also those that may not be
		if !dev.Same(d, d) {
			t.Errorf("Same of %s and itself: false", name)
		}
		if dev.Same(d, api.Disk{Data: data(7)}) {
			t.Errorf("Same of %s and another one: true", name)
		}
	}
	if !dev.Same(api.Disk{}, api.Disk{Data: []byte{}, Wait: []api.Put{}, Done: acts(2)}) {
		t.Error("a list without elements is the same, nil or not")
	}
	if !dev.Same(api.Disk{Wait: []api.Put{{N: 4}}}, api.Disk{Wait: []api.Put{{N: 4, Data: []byte{}}}}) {
		t.Error("a write without bytes is the same, nil or not")
	}
}

func TestRead(t *testing.T) { // P2.2
	d := api.Disk{Data: data(1, 2, 3), Wait: []api.Put{put(0, 4), put(2, 5), put(0, 6)}, Done: []api.Act{write(1, 9)}}
	for n, x := range []byte{6, 2, 5} {
		if b, e := dev.Read(d, n); e != api.OK || !bytes.Equal(b, full(x)) {
			t.Errorf("Read(%d): %v, error %d", n, b, e)
		}
	}
	for _, n := range []int{-1, 3, 4, 128, 384, 1 << 62, -1 << 63} {
		if b, e := dev.Read(d, n); e != api.ErrArg || b != nil {
			t.Errorf("Read(%d): %v, error %d", n, b, e)
		}
	}
	last, _ := dev.New(api.MaxBlocks)
	if b, e := dev.Read(last, api.MaxBlocks-1); e != api.OK || !bytes.Equal(b, full(0)) {
		t.Errorf("Read of the last block of all: %v, error %d", b, e)
	}
	if _, e := dev.Read(last, api.MaxBlocks); e != api.ErrArg {
		t.Errorf("Read beyond the last block of all: error %d", e)
	}
	noughts := api.Disk{Data: data(1), Wait: []api.Put{put(0, 0)}}
	if b, e := dev.Read(noughts, 0); e != api.OK || !bytes.Equal(b, full(0)) {
		t.Errorf("Read of noughts that wait: %v, error %d", b, e)
	}
}

func TestReadTellsEachByte(t *testing.T) { // P2.2
	d, _ := dev.New(3)
	b := make([]byte, api.Block)
	for i := range b {
		b[i] = byte(i + 1)
	}
	d = must2(t)(dev.Write(d, 1, b))
	for range 2 {
		for n, want := range [][]byte{full(0), b, full(0)} {
			if got, e := dev.Read(d, n); e != api.OK || !bytes.Equal(got, want) {
				t.Errorf("Read(%d): %v, error %d", n, got, e)
			}
		}
		d = must2(t)(dev.Sync(d))
	}
}

func TestWrite(t *testing.T) { // P2.2
	d := api.Disk{Data: data(1, 2), Wait: []api.Put{put(1, 3)}, Done: []api.Act{sync(), write(1, 3)}}
	for _, n := range []int{0, 1} {
		x, e := dev.Write(d, n, full(9))
		want := api.Disk{Data: data(1, 2), Wait: []api.Put{put(1, 3), put(n, 9)}, Done: []api.Act{sync(), write(1, 3), write(n, 9)}}
		if e != api.OK || !same(x, want) {
			t.Errorf("Write(%d): %v, error %d", n, x, e)
		}
	}
	for name, c := range map[string]struct {
		n int
		b []byte
		e api.Errno
	}{
		"beyond the last block":     {2, full(1), api.ErrArg},
		"below the first block":     {-1, full(1), api.ErrArg},
		"far beyond":                {1 << 62, full(1), api.ErrArg},
		"far below":                 {-1 << 63, full(1), api.ErrArg},
		"beyond, and 127 bytes":     {2, full(1)[:127], api.ErrArg},
		"127 bytes":                 {1, full(1)[:127], api.ErrText},
		"129 bytes":                 {0, make([]byte, 129), api.ErrText},
		"no bytes":                  {0, nil, api.ErrText},
		"two blocks' bytes":         {0, data(1, 1), api.ErrText},
		"a whole disk's, and more ": {0, data(1, 1, 1), api.ErrText},
	} {
		if x, e := dev.Write(d, c.n, c.b); e != c.e || !nothing(x) {
			t.Errorf("Write of %s: error %d, not %d", name, e, c.e)
		}
	}
}

func TestWriteAndSyncOfFull(t *testing.T) { // P2.2
	for name, c := range map[string]struct {
		wait, done  int
		write, sync api.Errno
	}{
		"one less than MaxActs wait":       {maxActs - 1, 0, api.OK, api.OK},
		"MaxActs wait":                     {maxActs, 0, api.ErrFull, api.OK},
		"one less than MaxActs were done":  {0, maxActs - 1, api.OK, api.OK},
		"MaxActs were done":                {0, maxActs, api.ErrFull, api.ErrFull},
		"MaxActs wait, and were done":      {maxActs, maxActs, api.ErrFull, api.ErrFull},
		"one less wait, MaxActs were done": {maxActs - 1, maxActs, api.ErrFull, api.ErrFull},
		"as many as a script's acts, once": {api.MaxActs, api.MaxActs, api.OK, api.OK},
	} {
		d := api.Disk{Data: data(0), Wait: puts(c.wait), Done: acts(c.done)}
		x, e := dev.Write(d, 0, full(1))
		if e != c.write || (e == api.OK && len(x.Wait) != c.wait+1) || (e != api.OK && !nothing(x)) {
			t.Errorf("Write where %s: error %d", name, e)
		}
		x, e = dev.Sync(d)
		if e != c.sync || (e == api.OK && len(x.Done) != c.done+1) || (e != api.OK && !nothing(x)) {
			t.Errorf("Sync where %s: error %d", name, e)
		}
		if x, e := dev.Clear(d); e != api.OK || len(x.Wait) != c.wait || len(x.Done) != 0 {
			t.Errorf("Clear where %s: error %d", name, e)
		}
		if x, e := dev.Crash(d, nil); e != api.OK || !same(x, api.Disk{Data: data(0)}) {
			t.Errorf("Crash where %s: error %d", name, e)
		}
	}
	d := api.Disk{Data: data(0), Wait: puts(maxActs), Done: acts(maxActs)}
	if _, e := dev.Write(d, 1, full(1)); e != api.ErrArg {
		t.Errorf("Write beyond the last block where all is full: error %d", e)
	}
	if _, e := dev.Write(d, 0, full(1)[:127]); e != api.ErrText {
		t.Errorf("Write of 127 bytes where all is full: error %d", e)
	}
}

func TestSync(t *testing.T) { // P2.2
	d := api.Disk{Data: data(1, 2, 3), Wait: []api.Put{put(0, 4), put(2, 5), put(0, 6)}, Done: []api.Act{write(0, 4)}}
	x, e := dev.Sync(d)
	if e != api.OK || !same(x, api.Disk{Data: data(6, 2, 5), Done: []api.Act{write(0, 4), sync()}}) {
		t.Errorf("Sync: %v, error %d", x, e)
	}
	x, e = dev.Sync(x)
	if e != api.OK || !same(x, api.Disk{Data: data(6, 2, 5), Done: []api.Act{write(0, 4), sync(), sync()}}) {
		t.Errorf("Sync where nothing waits: %v, error %d", x, e)
	}
}

func TestClear(t *testing.T) { // P2.2
	for _, d := range []api.Disk{
		{Data: data(1, 2), Wait: []api.Put{put(1, 3), put(0, 4)}, Done: []api.Act{write(1, 3), sync(), write(1, 3), write(0, 4)}},
		{Data: data(1, 2), Wait: []api.Put{put(1, 3)}},
		{Data: data(1), Done: []api.Act{sync()}},
		{Data: data(1)},
	} {
		x, e := dev.Clear(d)
		if e != api.OK || !same(x, api.Disk{Data: d.Data, Wait: d.Wait}) {
			t.Errorf("Clear: %v, error %d", x, e)
		}
	}
}

// must2 is must of a call that stands in its place.
func must2(t *testing.T) func(api.Disk, api.Errno) api.Disk {
	return func(d api.Disk, e api.Errno) api.Disk {
		t.Helper()
		return must(t, d, e)
	}
}
