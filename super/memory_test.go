package super_test

import (
	"bytes"
	"testing"

	"millhand/api"
	"millhand/super"
)

// spared is b with room behind it that is filled, so that a write into it is seen.
func spared(b []byte) []byte {
	return append(bytes.Clone(b), 0xA5, 0xA5, 0xA5, 0xA5)[: len(b) : len(b)+4]
}

// roomy is a disk with superblocks whose every list has room behind it; its blocks 0 and 1 are written over by what waits.
func roomy() api.Disk {
	mark := api.Put{N: 77, Data: []byte{7}}
	w := []api.Put{{N: 1, Data: spared(made(5, 50))}, {N: 0, Data: spared(full(5))}, {N: 2, Data: spared(full(6))}, mark, mark}
	a := []api.Act{{Put: api.Put{N: 1, Data: spared(made(3, 30))}}, {Sync: true}, {Put: api.Put{N: 1, Data: spared(full(4))}}, {Put: mark}, {Put: mark}}
	return api.Disk{Data: spared(small(made(2, 20), made(3, 30)).Data), Wait: w[:3], Done: a[:3]}
}

// sameWhole tells whether two disks are the same, with the room behind their lists.
func sameWhole(a, b api.Disk) bool {
	if !bytes.Equal(a.Data[:cap(a.Data)], b.Data[:cap(b.Data)]) || len(a.Wait) != len(b.Wait) || len(a.Done) != len(b.Done) {
		return false
	}
	for i, p := range a.Wait[:cap(a.Wait)] {
		if !sameWrite(p, b.Wait[:cap(b.Wait)][i]) {
			return false
		}
	}
	for i, x := range a.Done[:cap(a.Done)] {
		y := b.Done[:cap(b.Done)][i]
		if x.Sync != y.Sync || !sameWrite(x.Put, y.Put) {
			return false
		}
	}
	return true
}

func sameWrite(a, b api.Put) bool {
	return a.N == b.N && bytes.Equal(a.Data[:cap(a.Data)], b.Data[:cap(b.Data)])
}

func TestArgumentsAreOnlyRead(t *testing.T) { // P3.3
	for _, b := range [][]byte{made(3, 5), made(greatest, maxSize), full(0), full(255), made(1, maxSize+1), full(1)[:127], {}} {
		x := spared(b)
		of(x)
		if !bytes.Equal(x[:cap(x)], append(bytes.Clone(b), 0xA5, 0xA5, 0xA5, 0xA5)) {
			t.Errorf("Of changed %v", b)
		}
	}
	d := roomy()
	if got := latest(d); got != (told{3, 30, api.OK}) {
		t.Fatalf("Latest of the disk of this test: %v", got)
	}
	if !sameWhole(d, roomy()) {
		t.Error("Latest changed the disk that it was handed")
	}
	for name, spoil := range map[string]func(*api.Disk){ // with an error, too
		"no superblock": func(d *api.Disk) { clear(d.Data) },
		"few blocks":    func(d *api.Disk) { d.Data = d.Data[:34*api.Block] },
		"a bad disk":    func(d *api.Disk) { d.Wait[2].N = 99 },
	} {
		x, same := roomy(), roomy()
		spoil(&x)
		spoil(&same)
		if got := latest(x); got.e == api.OK || !sameWhole(x, same) {
			t.Errorf("%s: Latest changed the disk that it was handed, or answered %v", name, got)
		}
	}
}

func TestAnswersAreNewMemory(t *testing.T) { // P3.3
	one, _ := super.Block(258, 5)
	two, _ := super.Block(258, 5)
	one = one[:cap(one)]
	for i := range one {
		one[i] = 0xEE
	}
	three, e := super.Block(258, 5)
	if e != api.OK || !bytes.Equal(two, made(258, 5)) || !bytes.Equal(three, made(258, 5)) {
		t.Errorf("two answers of Block share memory: %v, %v, error %d", two, three, e)
	}
}

func TestAnswersHangOnArgumentsAlone(t *testing.T) { // R2: nothing is kept from call to call
	d := roomy()
	for range 3 {
		of(full(9))
		latest(small(made(8, 80), made(9, 90)))
		super.Block(77, 7)
		if a, b := of(made(3, 5)), latest(d); a != (told{3, 5, api.OK}) || b != (told{3, 30, api.OK}) {
			t.Errorf("the same calls once more: %v, %v", a, b)
		}
	}
}
