package super_test

import (
	"testing"

	"millhand/api"
	"millhand/dev"
)

// cuts calls f with all disks that a loss of power may leave of what was done to a disk since it was cleared, and with how many acts were done then.
func cuts(t *testing.T, first, d api.Disk, f func(done int, kept []bool, x api.Disk)) {
	t.Helper()
	for n := range len(d.Done) + 1 {
		cut := must(t)(dev.Do(first, d.Done, n))
		for bits := range 1 << len(cut.Wait) {
			keep := keepOf(bits, len(cut.Wait))
			f(n, keep, must(t)(dev.Crash(cut, keep)))
		}
	}
}

func TestTurnsAndPower(t *testing.T) { // P3.4, W2: power fails anywhere while one gen is made behind the other
	for _, from := range []uint32{1, 2, 255, 65534, 1<<31 - 2, greatest - 8} {
		first := small(nil, nil)
		before := none
		for gen := from; gen < from+8; gen++ {
			now := told{gen, int(gen % (maxSize + 1)), api.OK}
			d := turned(t, first, gen, now.size)
			if got := latest(d); got != before {
				t.Fatalf("the gen %d waits: %v, not %v", gen, got, before)
			}
			d = must(t)(dev.Sync(d))
			cuts(t, first, d, func(done int, kept []bool, x api.Disk) {
				want := before
				if done == 2 || done == 1 && kept[0] {
					want = now
				}
				if got := latest(x); got != want {
					t.Fatalf("the gen %d, %d acts done, %v kept: %v, not %v", gen, done, kept, got, want)
				}
			})
			first, before = must(t)(dev.Clear(d)), now
		}
	}
}

func TestAnyLaterOneAndPower(t *testing.T) { // P3.4: a later one, of whatever gen, among other writes of the same turn
	for _, old := range [][2]uint32{{2, 1}, {2, 3}, {6, 3}, {100, 7}, {0, 1}, {2, 0}, {0, 0}} {
		first := small(made(old[0], 10), made(old[1], 20))
		before := latest(first)
		for step := uint32(1); step < 5; step++ {
			gen := before.gen + step
			now := told{gen, 30, api.OK}
			d := must(t)(dev.Write(first, 2, full(1)))
			d = turned(t, must(t)(dev.Write(d, 18, full(2))), gen, 30)
			d = must(t)(dev.Write(d, 34, full(3)))
			cuts(t, first, must(t)(dev.Sync(d)), func(done int, kept []bool, x api.Disk) {
				want := before
				if done == 5 || done >= 3 && kept[2] { // the third write is the superblock's
					want = now
				}
				if got := latest(x); got != want {
					t.Fatalf("the gen %d over %v, %d acts done, %v kept: %v, not %v", gen, old, done, kept, got, want)
				}
			})
		}
	}
}

func TestPowerFailsAgain(t *testing.T) { // P3.4, W2: again and again, with what is lost begun anew
	var fail func(d api.Disk, before told, depth int)
	fail = func(d api.Disk, before told, depth int) {
		next := told{before.gen + 1, depth, api.OK}
		cuts(t, d, must(t)(dev.Sync(turned(t, d, next.gen, next.size))), func(_ int, _ []bool, x api.Disk) {
			got := latest(x)
			if got != before && got != next {
				t.Fatalf("the gen %d: %v, neither %v nor %v", next.gen, got, before, next)
			}
			if depth > 0 {
				fail(x, got, depth-1)
			}
		})
	}
	fail(small(nil, nil), none, 5)
}
