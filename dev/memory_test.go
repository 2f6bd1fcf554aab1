package dev_test

import (
	"bytes"
	"testing"

	"millhand/api"
	"millhand/dev"
)

// calls are all calls that are handed a disk and answer one.
func calls(b []byte, l []api.Act, keep []bool) map[string]func(api.Disk) (api.Disk, api.Errno) {
	return map[string]func(api.Disk) (api.Disk, api.Errno){
		"Write":         func(d api.Disk) (api.Disk, api.Errno) { return dev.Write(d, 1, b) },
		"Sync":          dev.Sync,
		"Clear":         dev.Clear,
		"Do of nothing": func(d api.Disk) (api.Disk, api.Errno) { return dev.Do(d, l, 0) },
		"Do":            func(d api.Disk) (api.Disk, api.Errno) { return dev.Do(d, l, len(l)) },
		"Crash":         func(d api.Disk) (api.Disk, api.Errno) { return dev.Crash(d, keep) },
	}
}

// given are arguments with room behind them that is filled.
func given() ([]byte, []api.Act, []bool) {
	l := []api.Act{{Put: api.Put{N: 2, Data: spared(full(11))}}, {Sync: true, Put: api.Put{Data: spared(nil)}}, {Put: api.Put{N: 0, Data: spared(full(12))}}, {Put: put(9, 9)}}
	return spared(full(10)), l[:3], []bool{true, false, true, true, true}[:3]
}

func TestArgumentsAreOnlyRead(t *testing.T) { // P2.5
	b, l, keep := given()
	for name, f := range calls(b, l, keep) {
		d := roomy()
		before := whole(d)
		must2(t)(f(d))
		if !same(whole(d), before) {
			t.Errorf("%s changed the disk that it was handed", name)
		}
	}
	d := roomy()
	before := whole(d)
	dev.Check(d)
	dev.Many(d)
	dev.Read(d, 1)
	dev.Read(d, 2)
	dev.Same(d, d)
	if !same(whole(d), before) {
		t.Error("a call that only tells something changed the disk")
	}
	b2, l2, keep2 := given()
	if !bytes.Equal(b[:cap(b)], b2[:cap(b2)]) {
		t.Error("Write changed its bytes, or the room behind them")
	}
	if !same(whole(api.Disk{Done: l}), whole(api.Disk{Done: l2})) {
		t.Error("Do changed its acts, or the room behind them")
	}
	for i, k := range keep2[:cap(keep2)] {
		if keep[:cap(keep)][i] != k {
			t.Error("Crash changed what it was told to keep")
		}
	}
}

// stain fills a list of bytes, and the room behind it.
func stain(b []byte) {
	b = b[:cap(b)]
	for i := range b {
		b[i] = 0xEE
	}
}

// stainAll changes all that can be reached of a disk.
func stainAll(d api.Disk) {
	for _, b := range lists(d) {
		stain(b)
	}
	for i := range d.Wait[:cap(d.Wait)] {
		d.Wait[:cap(d.Wait)][i].N = 99
	}
	for i := range d.Done[:cap(d.Done)] {
		d.Done[:cap(d.Done)][i] = api.Act{Sync: true, Put: api.Put{N: 99}}
	}
}

func TestAnswersAreNewMemory(t *testing.T) { // P2.5
	b, l, keep := given()
	for name, f := range calls(b, l, keep) {
		d := roomy()
		before := whole(d)
		x := must2(t)(f(d))
		if len(x.Data) == 0 {
			t.Fatalf("%s: no data", name)
		}
		stainAll(x)
		if !same(whole(d), before) {
			t.Errorf("%s answers memory of the disk that it was handed", name)
		}
	}
	b2, l2, _ := given()
	if !bytes.Equal(b[:cap(b)], b2[:cap(b2)]) || !same(whole(api.Disk{Done: l}), whole(api.Disk{Done: l2})) {
		t.Error("an answer has memory of an argument")
	}
	for name, f := range calls(b, l, keep) {
		d := roomy()
		x := must2(t)(f(d))
		was := whole(x)
		stainAll(d)
		if !same(whole(x), was) {
			t.Errorf("%s keeps memory of the disk that it was handed", name)
		}
	}
}

func TestListsOfOneAnswerShareNothing(t *testing.T) { // P2.5
	b, l, keep := given()
	for name, f := range calls(b, l, keep) {
		for i := range lists(must2(t)(f(roomy()))) {
			x := must2(t)(f(roomy()))
			var was [][]byte
			for _, b := range lists(x) {
				was = append(was, bytes.Clone(b[:cap(b)]))
			}
			stain(lists(x)[i])
			for j, now := range lists(x) {
				if j != i && !bytes.Equal(now[:cap(now)], was[j]) {
					t.Errorf("%s: the lists %d and %d share memory", name, i, j)
				}
			}
		}
	}
}

func TestReadIsNewMemory(t *testing.T) { // P2.5
	for n := range 3 { // written and waiting, waiting twice, lasting
		d := roomy()
		before := whole(d)
		one, _ := dev.Read(d, n)
		two, _ := dev.Read(d, n)
		was := bytes.Clone(two)
		stain(one)
		if !same(whole(d), before) || !bytes.Equal(two, was) {
			t.Errorf("Read(%d) answers memory that is not new", n)
		}
	}
}

func TestRoomyDiskMayBe(t *testing.T) { // the tests above would tell nothing of a disk that is refused
	if e := dev.Check(roomy()); e != api.OK {
		t.Fatalf("the disk of these tests: %d", e)
	}
}
