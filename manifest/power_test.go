package manifest_test

import (
	"bytes"
	"math/rand"
	"testing"

	"millhand/api"
	"millhand/dev"
	"millhand/fs"
	"millhand/manifest"
	"millhand/mount"
)

// keepOf are so many bools, true where a number's bits are set.
func keepOf(bits, many int) []bool {
	l := make([]bool, many)
	for i := range l {
		l[i] = bits>>i&1 != 0
	}
	return l
}

// lost is files that are opened again behind a loss of power between two states, behind so many acts.
func lost(t *testing.T, before, after api.Fs, many int, keep []bool) api.Fs {
	t.Helper()
	return ok[api.Fs](t)(mount.Open(ok[api.Disk](t)(mount.Crash(before, after, many, keep))))
}

// waitAt is how many writes wait on the disk of files behind some first ones of the acts that were done from no waiting ones on.
func waitAt(f api.Fs, many int) (waits int) {
	for _, a := range f.Disk.Done[:many] {
		if waits++; a.Sync {
			waits = 0
		}
	}
	return waits
}

// wantPower looks, wherever power fails in a save and its commit and whatever is kept, whether what is loaded is the version of before, or that one, and behind it that one; it tells how often it was each.
func wantPower(t *testing.T, name string, f api.Fs, was func(api.Fs) bool, v api.Version) (before, after int) {
	t.Helper()
	g := ok[api.Fs](t)(fs.Commit(ok[api.Fs](t)(manifest.Save(f, v))))
	n := len(g.Disk.Done)
	for many := range n + 1 {
		waits := waitAt(g, many)
		for i := range 1 << min(waits, 6) {
			bits := i
			if waits > 6 && i > 1 { // too many to keep all that can be: none, all, and some of them
				bits = rand.New(rand.NewSource(int64(i))).Intn(1 << waits)
			} else if waits > 6 && i == 1 {
				bits = 1<<waits - 1
			}
			h := lost(t, f, g, many, keepOf(bits, waits))
			if got, e := manifest.Load(h); e == api.OK && same(got, v) {
				after++
			} else if before++; many == n || !was(h) {
				t.Fatalf("%s, %d of %d acts, kept %b: %v, error %d", name, many, n, bits, got, e)
			}
		}
	}
	return before, after
}

func TestPower(t *testing.T) { // P17.5, W2
	versions := good()
	for _, name := range []string{"none", "by hand", "32 in all", "32 in level 0", "the longest", "a log as a file", "tables as a file"} {
		v := versions[name]
		before, after := wantPower(t, "the first one, "+name, beside(t, 120), func(h api.Fs) bool {
			_, e := manifest.Load(h)
			return e == api.ErrNone
		}, v)
		if before == 0 || after == 0 {
			t.Errorf("%s: %d times none, %d times the version", name, before, after)
		}
		for _, old := range []api.Version{of(row(1)), of(row(20)), but(of(row(2)), func(v *api.Version) { v.Seq = 9 })} {
			f := committed(t, ok[api.Fs](t)(manifest.Save(beside(t, 160), old)))
			before, after := wantPower(t, name, f, func(h api.Fs) bool {
				got, e := manifest.Load(h)
				return e == api.OK && same(got, old)
			}, v)
			if before == 0 || after == 0 {
				t.Errorf("%s: %d times the version of before, %d times that one", name, before, after)
			}
		}
	}
}

func TestPowerAgainAndAgain(t *testing.T) { // P17.5, W2: what is opened goes on, and loses power, again and again
	before, after := 0, 0
	for seed := range int64(20) {
		r := rand.New(rand.NewSource(seed))
		want := anyVersion(r)
		f := committed(t, ok[api.Fs](t)(manifest.Save(beside(t, 160), want)))
		for range 60 {
			v := anyVersion(r)
			g := ok[api.Fs](t)(fs.Commit(ok[api.Fs](t)(manifest.Save(f, v))))
			n := len(g.Disk.Done)
			many := max(0, n-r.Intn(4))
			if r.Intn(2) == 0 {
				many = r.Intn(n + 1)
			}
			f = lost(t, f, g, many, keepOf(r.Intn(1<<16)|r.Intn(2)*0xffff, waitAt(g, many)))
			got, e := manifest.Load(f)
			if e == api.OK && same(got, v) {
				want = v
				after++
			} else if before++; many == n || e != api.OK || !same(got, want) {
				t.Fatalf("seed %d, %d of %d acts: %v, error %d, not %v", seed, many, n, got, e, want)
			}
		}
	}
	if before < 100 || after < 100 {
		t.Errorf("%d times the version of before, %d times the one that was saved", before, after)
	}
}

func TestPowerOfWhatIsSaved(t *testing.T) { // P17.3, W2: what is saved, and not committed, is forgotten; its blocks are given anew
	f := committed(t, ok[api.Fs](t)(manifest.Save(bare(t, 60), of(row(2)))))
	g := ok[api.Fs](t)(fs.Sync(ok[api.Fs](t)(manifest.Save(f, of(row(9))))))
	for _, many := range []int{0, 1, len(g.Disk.Done)} {
		h := lost(t, f, g, many, []bool{true})
		if v, e := manifest.Load(h); e != api.OK || !same(v, of(row(2))) {
			t.Errorf("behind %d acts: %v, error %d", many, v, e)
		}
		wantSave(t, "over what was lost", h, of(row(7)))
	}
}

func TestPowerOfWhatIsStored(t *testing.T) { // P17.2, P17.5: bytes that are stored, and committed, last
	f := beside(t, 90)
	for i, n := range []int{0, 1, 128, 500, 1000} {
		name := string(rune('B' + i))
		f = committed(t, ok[api.Fs](t)(manifest.Store(f, name, some(n, n))))
		h := ok[api.Fs](t)(mount.Open(ok[api.Disk](t)(dev.Crash(f.Disk, nil))))
		if b, e := manifest.Fetch(h, name, n); e != api.OK || !bytes.Equal(b, some(n, n)) {
			t.Errorf("%d bytes: error %d, or other bytes", n, e)
		}
	}
}
