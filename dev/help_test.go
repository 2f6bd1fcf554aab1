package dev_test

import (
	"bytes"
	"slices"
	"testing"

	"millhand/api"
)

// maxActs is the chapter's MaxActs.
const maxActs = 65536

// full is a block of one byte, again and again.
func full(x byte) []byte { return bytes.Repeat([]byte{x}, api.Block) }

// data are blocks of one byte each.
func data(l ...byte) []byte {
	var b []byte
	for _, x := range l {
		b = append(b, full(x)...)
	}
	return b
}

// put is a write of a block of one byte.
func put(n int, x byte) api.Put { return api.Put{N: n, Data: full(x)} }

// write is that write as an act.
func write(n int, x byte) api.Act { return api.Act{Put: put(n, x)} }

// sync is a Sync as an act.
func sync() api.Act { return api.Act{Sync: true} }

// puts are many writes into the block 0.
func puts(many int) []api.Put {
	b := full(5)
	l := make([]api.Put, many)
	for i := range l {
		l[i] = api.Put{Data: b}
	}
	return l
}

// acts are many writes into the block 0, as acts.
func acts(many int) []api.Act {
	l := make([]api.Act, many)
	for i, p := range puts(many) {
		l[i] = api.Act{Put: p}
	}
	return l
}

// must is a disk that was answered without an error.
func must(t *testing.T, d api.Disk, e api.Errno) api.Disk {
	t.Helper()
	if e != api.OK {
		t.Fatalf("the error %d, not a disk", e)
	}
	return d
}

func sameAct(a, b api.Act) bool {
	return a.Sync == b.Sync && a.Put.N == b.Put.N && bytes.Equal(a.Put.Data, b.Put.Data)
}

// same tells whether two disks are the same in all their parts, without the help of the package under test.
func same(a, b api.Disk) bool {
	return bytes.Equal(a.Data, b.Data) && sameActs(waiting(a), waiting(b)) && sameActs(a.Done, b.Done)
}

func sameActs(a, b []api.Act) bool { return slices.EqualFunc(a, b, sameAct) }

// waiting are a disk's writes that wait, as acts.
func waiting(d api.Disk) []api.Act {
	l := make([]api.Act, len(d.Wait))
	for i, p := range d.Wait {
		l[i] = api.Act{Put: p}
	}
	return l
}

// nothing tells whether a disk is the zero value, as it must be beside an error.
func nothing(d api.Disk) bool { return d.Data == nil && d.Wait == nil && d.Done == nil }

// bad are disks that may not be, of every kind.
func bad() map[string]api.Disk {
	two := data(0, 0)
	return map[string]api.Disk{
		"no data":                             {},
		"no data, not nil":                    {Data: []byte{}},
		"a byte":                              {Data: make([]byte, 1)},
		"a byte less than a block":            {Data: make([]byte, api.Block-1)},
		"a byte more than a block":            {Data: make([]byte, api.Block+1)},
		"a byte less than MaxBlocks":          {Data: make([]byte, api.MaxBlocks*api.Block-1)},
		"a byte more than MaxBlocks":          {Data: make([]byte, api.MaxBlocks*api.Block+1)},
		"a block more than MaxBlocks":         {Data: make([]byte, (api.MaxBlocks+1)*api.Block)},
		"a wait beyond the last block":        {Data: two, Wait: []api.Put{put(2, 1)}},
		"a wait below the first block":        {Data: two, Wait: []api.Put{put(-1, 1)}},
		"a wait of no bytes":                  {Data: two, Wait: []api.Put{{N: 1}}},
		"a wait of 127 bytes":                 {Data: two, Wait: []api.Put{{N: 1, Data: make([]byte, 127)}}},
		"a wait of 129 bytes":                 {Data: two, Wait: []api.Put{{N: 1, Data: make([]byte, 129)}}},
		"a second wait that is bad":           {Data: two, Wait: []api.Put{put(1, 1), put(2, 1)}},
		"a wait far beyond":                   {Data: two, Wait: []api.Put{put(1<<62, 1)}},
		"a done write beyond the last block":  {Data: two, Done: []api.Act{write(2, 1)}},
		"a done write below the first block":  {Data: two, Done: []api.Act{write(-1, 1)}},
		"a done write of no bytes":            {Data: two, Done: []api.Act{{}}},
		"a done write of 127 bytes":           {Data: two, Done: []api.Act{{Put: api.Put{Data: make([]byte, 127)}}}},
		"a done write of 129 bytes":           {Data: two, Done: []api.Act{{Put: api.Put{Data: make([]byte, 129)}}}},
		"a done sync with a number":           {Data: two, Done: []api.Act{{Sync: true, Put: api.Put{N: 1}}}},
		"a done sync with a number below 0":   {Data: two, Done: []api.Act{{Sync: true, Put: api.Put{N: -1}}}},
		"a done sync with a byte":             {Data: two, Done: []api.Act{{Sync: true, Put: api.Put{Data: []byte{0}}}}},
		"a done sync with a block":            {Data: two, Done: []api.Act{{Sync: true, Put: put(0, 0)}}},
		"a second done act that is bad":       {Data: two, Done: []api.Act{sync(), write(0, 1), write(2, 1)}},
		"one wait more than MaxActs":          {Data: two, Wait: puts(maxActs + 1)},
		"one done act more than MaxActs":      {Data: two, Done: acts(maxActs + 1)},
		"bad data beside waits that would be": {Data: make([]byte, 100), Wait: []api.Put{put(0, 1)}},
	}
}

// spared is b with room behind it that is filled, so that a write into it is seen.
func spared(b []byte) []byte {
	return append(bytes.Clone(b), 0xA5, 0xA5, 0xA5, 0xA5)[:len(b)]
}

// roomy is a disk whose every list has room behind it.
func roomy() api.Disk {
	mark := api.Put{N: 77, Data: []byte{7}}
	w := []api.Put{{N: 1, Data: spared(full(4))}, {N: 0, Data: spared(full(5))}, {N: 1, Data: spared(full(6))}, mark, mark}
	a := []api.Act{{Put: api.Put{N: 1, Data: spared(full(3))}}, {Sync: true}, {Put: api.Put{N: 1, Data: spared(full(4))}}, {Put: mark}, {Put: mark}}
	return api.Disk{Data: spared(data(1, 3, 2)), Wait: w[:3], Done: a[:3]}
}

// whole is the disk with the room behind its lists: what must not change.
func whole(d api.Disk) api.Disk {
	w := make([]api.Put, 0, cap(d.Wait))
	for _, p := range d.Wait[:cap(d.Wait)] {
		w = append(w, api.Put{N: p.N, Data: bytes.Clone(p.Data[:cap(p.Data)])})
	}
	a := make([]api.Act, 0, cap(d.Done))
	for _, x := range d.Done[:cap(d.Done)] {
		a = append(a, api.Act{Sync: x.Sync, Put: api.Put{N: x.Put.N, Data: bytes.Clone(x.Put.Data[:cap(x.Put.Data)])}})
	}
	return api.Disk{Data: bytes.Clone(d.Data[:cap(d.Data)]), Wait: w, Done: a}
}

// lists are all lists of bytes that a disk has.
func lists(d api.Disk) [][]byte {
	l := [][]byte{d.Data}
	for _, p := range d.Wait {
		l = append(l, p.Data)
	}
	for _, a := range d.Done {
		l = append(l, a.Put.Data)
	}
	return l
}
