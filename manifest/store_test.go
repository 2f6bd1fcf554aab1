package manifest_test

import (
	"bytes"
	"fmt"
	"math"
	"slices"
	"strings"
	"testing"

	"millhand/api"
	"millhand/fs"
	"millhand/manifest"
)

func TestStoreExample(t *testing.T) { // P17.2
	f := ok[api.Fs](t)(fs.Format(64))
	g := ok[api.Fs](t)(manifest.Store(f, "a", some(130, 1)))
	if n := ok[int](t)(fs.Size(g, "a")); n != 2 {
		t.Errorf("%d blocks, not 2", n)
	}
	if b := ok[[]byte](t)(manifest.Fetch(g, "a", 130)); !bytes.Equal(b, some(130, 1)) {
		t.Errorf("other bytes: %d", b)
	}
	b, e := manifest.Fetch(g, "a", 257)
	wantAlone(t, "257 bytes", e, api.ErrArg, b)
	g, e = manifest.Store(f, "a", some(16385, 1))
	wantAlone(t, "16,385 bytes", e, api.ErrText, g)
}

// wantStore looks whether Store makes just the file, and puts just the bytes and noughts into its blocks.
func wantStore(t *testing.T, row string, f api.Fs, name string, b []byte) {
	t.Helper()
	g, e := manifest.Store(f, name, b)
	if e != api.OK || !sameFs(g, put(t, f, name, stored(b))) {
		t.Errorf("%s, %d bytes: error %d, or other files", row, len(b), e)
		return
	}
	if !sameBlocks(blocksOf(t, g, name), stored(b)) {
		t.Errorf("%s, %d bytes: other blocks", row, len(b))
	}
	if got, e := manifest.Fetch(g, name, len(b)); e != api.OK || !bytes.Equal(got, b) {
		t.Errorf("%s, %d bytes: they are not fetched, error %d", row, len(b), e)
	}
	if fs.Check(g) != api.OK {
		t.Errorf("%s, %d bytes: files that may not be", row, len(b))
	}
}

func TestStore(t *testing.T) { // P17.2, P17.5, W6
	for _, n := range []int{0, 1, 2, 126, 127, 128, 129, 130, 255, 256, 257, 384, 1000, 16256, 16257, 16383, 16384} {
		wantStore(t, "alone", bare(t, 170), "a", some(n, n))
		wantStore(t, "of noughts", bare(t, 170), "a", make([]byte, n))
		wantStore(t, "beside others, in parts", beside(t, 180), "b", some(n, n))
	}
	for _, name := range []string{"\x00", "current", "next", text(16)} {
		wantStore(t, "a name", bare(t, 64), name, some(300, 2))
	}
	wantStore(t, "all blocks that can be given", bare(t, 64), "a", some(30*128, 1))
	wantStore(t, "all but a part of one", bare(t, 64), "a", some(29*128+1, 1))
	wantStore(t, "the last block", bare(t, 35), "a", nil)
}

func TestStoreWaits(t *testing.T) { // P17.2: it waits, and nothing is committed
	f := beside(t, 70)
	g := ok[api.Fs](t)(manifest.Store(f, "b", some(300, 1)))
	if len(g.Disk.Wait) != 3 || len(g.Disk.Done) != 3 || !bytes.Equal(g.Disk.Data, f.Disk.Data) {
		t.Errorf("%d writes wait, %d acts were done", len(g.Disk.Wait), len(g.Disk.Done))
	}
	if g.Gen != f.Gen || !sameDir(g.Kept, f.Kept) {
		t.Errorf("gen %d, or other files are committed", g.Gen)
	}
	for _, name := range []string{"a", "m", "z"} {
		if !sameBlocks(blocksOf(t, g, name), blocksOf(t, f, name)) {
			t.Errorf("%s has other blocks", name)
		}
	}
	f = ok[api.Fs](t)(fs.Put(f, "a", 0, full(77)))
	wantStore(t, "while a block waits", f, "b", some(300, 1))
}

func TestStoreErrorsInOrder(t *testing.T) { // P17.2: fs.Check's, the bytes', fs.Create's, fs.Put's
	long := text(17)
	for name, f := range badFs(t) {
		for _, x := range []string{"", "a", "b", long} {
			for _, n := range []int{0, 300, 16385} {
				g, e := manifest.Store(f, x, some(n, 1))
				wantAlone(t, "Store in files that may not be: "+name, e, api.ErrBad, g)
			}
		}
	}
	f := bare(t, 64)
	f = put(t, f, "a", [][]byte{full(1)})
	for _, c := range []struct {
		name string
		n    int
		want api.Errno
	}{
		{"", 16385, api.ErrText}, {"a", 16385, api.ErrText}, {long, 1 << 17, api.ErrText}, {"b", 16385, api.ErrText},
		{"", 0, api.ErrName}, {long, 16384, api.ErrName}, {strings.Repeat("é", 9), 1, api.ErrName},
		{"a", 0, api.ErrThere}, {"a", 16384, api.ErrThere},
		{"b", 29*128 + 1, api.ErrRoom}, {"b", 16384, api.ErrRoom},
	} {
		g, e := manifest.Store(f, c.name, some(c.n, 1))
		wantAlone(t, fmt.Sprintf("Store of %q, %d bytes", c.name, c.n), e, c.want, g)
		g, e = manifest.Store(busy(f, maxActs, maxActs), c.name, some(c.n, 1))
		wantAlone(t, fmt.Sprintf("Store of %q, %d bytes, on a busy disk", c.name, c.n), e, c.want, g)
	}
	wantStore(t, "as many as there are", f, "b", some(29*128, 1))
}

func TestStoreOfFullDirectory(t *testing.T) { // P17.2: fs.Create's error
	f := bare(t, 100)
	for i := range api.MaxFiles - 1 {
		f = ok[api.Fs](t)(fs.Create(f, string(rune('A'+i)), 1))
	}
	wantStore(t, "the last file", f, "last", some(300, 1))
	f = ok[api.Fs](t)(fs.Create(f, "x", 1))
	g, e := manifest.Store(f, "last", nil)
	wantAlone(t, "one more", e, api.ErrRoom, g)
}

func TestStoreOnBusyDisk(t *testing.T) { // P17.2: fs.Put's error, of whichever block
	f := bare(t, 64)
	for _, n := range []int{0, 1, 128, 129, 300, 640} {
		blocks := len(stored(some(n, 1)))
		wantStore(t, "as many acts as there can be", busy(f, maxActs-blocks, 0), "a", some(n, 1))
		wantStore(t, "as many writes as can wait", busy(f, 0, maxActs-blocks), "a", some(n, 1))
		for _, over := range []int{1, blocks} {
			g, e := manifest.Store(busy(f, maxActs-blocks+over, 0), "a", some(n, 1))
			wantAlone(t, "more acts than can be", e, api.ErrFull, g)
			g, e = manifest.Store(busy(f, 0, maxActs-blocks+over), "a", some(n, 1))
			wantAlone(t, "more writes than can wait", e, api.ErrFull, g)
		}
	}
}

func TestFetch(t *testing.T) { // P17.2: the first so many of all bytes that the blocks have
	f := beside(t, 80)
	all := map[string]api.Fs{"parts that wait": put(t, f, "b", stored(some(1000, 1))), "one block": put(t, f, "b", stored(nil))}
	all["parts that last"] = committed(t, all["parts that wait"])
	all["written anew"] = ok[api.Fs](t)(fs.Put(all["parts that last"], "b", 3, full(9)))
	all["never put"] = ok[api.Fs](t)(fs.Create(f, "b", 3))
	for name, f := range all {
		whole := slices.Concat(blocksOf(t, f, "b")...)
		for n := range len(whole) + 1 {
			if b, e := manifest.Fetch(f, "b", n); e != api.OK || !bytes.Equal(b, whole[:n]) {
				t.Fatalf("%s, %d bytes: error %d, or other bytes", name, n, e)
			}
		}
		for _, n := range []int{-1, -128, math.MinInt, len(whole) + 1, len(whole) + 128, 1 << 32, math.MaxInt} {
			b, e := manifest.Fetch(f, "b", n)
			wantAlone(t, fmt.Sprintf("%s, %d bytes", name, n), e, api.ErrArg, b)
		}
	}
}

func TestFetchOfLongFile(t *testing.T) { // P17.2: more than Store takes, too
	f := ok[api.Fs](t)(fs.Create(bare(t, 400), "a", 366))
	b, e := manifest.Fetch(f, "a", 366*128)
	if e != api.OK || !bytes.Equal(b, f.Disk.Data[34*128:]) {
		t.Errorf("error %d, or other bytes", e)
	}
	b, e = manifest.Fetch(f, "a", 366*128+1)
	wantAlone(t, "one byte more", e, api.ErrArg, b)
}

func TestFetchErrorsInOrder(t *testing.T) { // P17.2: fs.Size's, the number's
	sizes := []int{0, 1, 129, -1, math.MinInt, math.MaxInt}
	for name, f := range badFs(t) {
		for _, n := range sizes {
			for _, x := range []string{"", "a", "b", "current"} {
				b, e := manifest.Fetch(f, x, n)
				wantAlone(t, "Fetch of files that may not be: "+name, e, api.ErrBad, b)
			}
		}
	}
	f := put(t, bare(t, 64), "a", [][]byte{full(1)})
	for _, n := range sizes {
		for x, want := range map[string]api.Errno{"": api.ErrName, text(17): api.ErrName, "b": api.ErrNone, "aa": api.ErrNone, text(16): api.ErrNone} {
			b, e := manifest.Fetch(f, x, n)
			wantAlone(t, fmt.Sprintf("Fetch of %q, %d bytes", x, n), e, want, b)
		}
	}
	b, e := manifest.Fetch(ok[api.Fs](t)(fs.Delete(f, "a")), "a", 0)
	wantAlone(t, "Fetch of what is deleted", e, api.ErrNone, b)
}
