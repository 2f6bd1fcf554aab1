package wal_test

import (
	"fmt"
	"math/rand"
	"slices"
	"testing"

	"millhand/api"
	"millhand/dev"
	"millhand/fs"
	"millhand/mount"
	"millhand/wal"
)

// keepOf are so many bools, true where a number's bits are set.
func keepOf(bits, many int) []bool {
	l := make([]bool, many)
	for i := range l {
		l[i] = bits>>i&1 != 0
	}
	return l
}

// lost is files that are opened again behind a loss of power between two states, behind so many acts.
func lost(t *testing.T, before, after api.Fs, many int, keep []bool) api.Fs {
	t.Helper()
	return ok[api.Fs](t)(mount.Open(ok[api.Disk](t)(mount.Crash(before, after, many, keep))))
}

// wantPower looks, wherever power fails in an append and whatever is kept, whether the log that is opened again has the records of before, or that one more; behind the append that one more.
func wantPower(t *testing.T, name string, f api.Fs, record []byte) {
	t.Helper()
	w, before := opened(t, f, "log")
	g, x := longer(t, f, w, record)
	after := append(slices.Clone(before), record)
	n := len(g.Disk.Done)
	for many := range n + 1 {
		waits := many % n // the last act is the sync, behind which nothing waits
		for bits := range 1 << waits {
			h := lost(t, f, g, many, keepOf(bits, waits))
			y, l := opened(t, h, "log")
			all := many == n || many == n-1 && bits == 1<<waits-1
			if all && (y != x || !same(l, after)) {
				t.Fatalf("%s, %d bytes, %d acts, kept %b: %v with %d records, not %v with %d", name, len(record), many, bits, y, len(l), x, len(after))
			}
			if !all && (y.Name != w.Name || y.Gen != w.Gen || y.Number != w.Number || y.Last != w.Last || y.Blocks != w.Blocks || !same(l, before)) {
				t.Fatalf("%s, %d bytes, %d acts, kept %b: %v with %d records, not those of %v", name, len(record), many, bits, y, len(l), w)
			}
		}
	}
}

func TestPowerInAppends(t *testing.T) { // P9.5, W2
	for name, c := range logs() {
		if c.want.Greatest == greatest {
			continue
		}
		for _, size := range []int{0, 1, 107, 108, 214, 215, 321, 322, 500} {
			f := holding(t, append(slices.Clone(c.blocks), blank(5)...))
			wantPower(t, name, f, some(size, 8))
		}
	}
}

func TestPowerInAppendOverTornOnes(t *testing.T) { // P9.5: the same record, and another one, written once more where power failed
	f := holding(t, file(6, log(), blank(9)))
	w, _ := opened(t, f, "log")
	g, _ := longer(t, f, w, some(400, 3))
	for bits := range 1 << 4 {
		h := lost(t, f, g, 4, keepOf(bits, 4))
		for _, r := range [][]byte{some(400, 3), some(300, 4), some(401, 5), nil, some(107, 3)} {
			wantPower(t, "behind a torn one", h, r)
		}
	}
}

// anyBlock is a block of any kind that may stand in a log's file: of noughts, of bytes, of a record of some gen.
func anyBlock(r *rand.Rand, gen uint32) []byte {
	switch r.Intn(5) {
	case 0:
		return full(0)
	case 1:
		return full(byte(r.Intn(256)))
	case 2:
		return begun(gen, uint32(r.Intn(4)), uint32(r.Intn(20)), uint32(r.Intn(20)))
	default:
		l := made(uint32(max(0, int(gen)-r.Intn(2))), uint32(1+r.Intn(4)), uint32(r.Intn(20)), uint32(r.Intn(9)), some(r.Intn(300), r.Intn(9)))
		return l[r.Intn(len(l))]
	}
}

func TestPowerAgainAndAgain(t *testing.T) { // P9.5, W2: what is opened goes on, and loses power, again and again
	before, after := 0, 0
	for seed := range int64(12) {
		r := rand.New(rand.NewSource(seed))
		var l [][]byte
		for range 40 {
			l = append(l, anyBlock(r, 6))
		}
		f := holding(t, file(6, l))
		_, want := opened(t, f, "log")
		for range 150 {
			w, _ := opened(t, f, "log")
			record := some(r.Intn(400), r.Intn(9))
			g, _, e := wal.Append(f, w, record)
			if e == api.ErrStall {
				break
			}
			n := len(g.Disk.Done)
			many := max(0, n-1-r.Intn(3)*r.Intn(2))
			if r.Intn(4) == 0 {
				many = n
			}
			keep := keepOf(r.Intn(1<<16)|r.Intn(2)*0xffff, 16)
			f = lost(t, f, g, many, keep)
			_, got := opened(t, f, "log")
			if same(got, append(slices.Clone(want), record)) {
				want = got
				after++
			} else if before++; many == n || !same(got, want) {
				t.Fatalf("seed %d, %d of %d acts: %d records, not %d", seed, many, n, len(got), len(want))
			}
		}
	}
	if before < 50 || after < 50 {
		t.Errorf("%d times the records of before, %d times one more", before, after)
	}
}

func TestPowerBehindAppends(t *testing.T) { // P9.5: what was appended lasts, whatever waits beside it is kept
	f, w := begin(t, bare(t, 120, full(3)), "log", 60)
	f = committed(t, ok[api.Fs](t)(fs.Create(f, "other", 2)))
	var want [][]byte
	for i := range 14 {
		f = ok[api.Fs](t)(fs.Put(ok[api.Fs](t)(fs.Clear(f)), "other", i%2, full(byte(i))))
		f, w = longer(t, f, w, some(i*37, i))
		want = append(want, some(i*37, i))
		f = ok[api.Fs](t)(fs.Put(f, "other", i%2, full(byte(i+1))))
		for bits := range 2 {
			h := ok[api.Fs](t)(mount.Open(ok[api.Disk](t)(dev.Crash(f.Disk, keepOf(bits, 1)))))
			wantLog(t, "behind an append", h, w, want)
		}
	}
}

func TestNewHasNoRecords(t *testing.T) { // P9.5: whatever stood in its blocks; also when it was committed and is opened again
	for seed := range int64(60) {
		r := rand.New(rand.NewSource(seed))
		var l [][]byte
		for range 25 {
			l = append(l, anyBlock(r, uint32(1+r.Intn(9))))
		}
		if r.Intn(3) > 0 { // a whole log's file, as it was deleted
			copy(l, file(6, log()))
		}
		f := bare(t, 64, l...)
		g, w, e := wal.New(f, "log", 2+r.Intn(25))
		if e == api.ErrFull {
			continue // a block begins with the greatest number
		}
		if e != api.OK {
			t.Fatalf("seed %d: error %d", seed, e)
		}
		wantLog(t, "new", g, w, nil)
		h := ok[api.Fs](t)(fs.Commit(g))
		wantLog(t, "committed", h, w, nil)
		wantLog(t, "opened again", ok[api.Fs](t)(mount.Open(ok[api.Disk](t)(dev.Crash(h.Disk, nil)))), w, nil)
		for many := range len(h.Disk.Done) + 1 {
			for bits := range 4 {
				x := lost(t, f, h, many, keepOf(bits, 2))
				if _, e := fs.Size(x, "log"); e == api.ErrNone && many < len(h.Disk.Done) {
					continue // power failed ahead of the commit's end
				}
				wantLog(t, fmt.Sprintf("seed %d, power failed behind %d acts", seed, many), x, w, nil)
			}
		}
		wantPower(t, "the first record of a new log", ok[api.Fs](t)(fs.Clear(h)), some(r.Intn(room), 3))
	}
}

func TestNewInBlocksOfLogs(t *testing.T) { // P9.5: logs that are deleted and made anew, in the same blocks
	f := bare(t, api.First+12)
	var gen uint32
	for i := range 30 {
		g, w := begin(t, f, "log", 12)
		if w.Gen != gen+1 {
			t.Fatalf("log %d: gen %d, behind %d", i, w.Gen, gen)
		}
		gen = w.Gen
		f = committed(t, g)
		for j := range 3 + i%3 {
			f, w = longer(t, f, w, some(30*j+i, j))
		}
		if _, l := opened(t, f, "log"); len(l) != 3+i%3 {
			t.Fatalf("log %d: %d records", i, len(l))
		}
		f = committed(t, ok[api.Fs](t)(fs.Delete(f, "log")))
	}
}
