package manifest_test

import (
	"bytes"
	"fmt"
	"slices"
	"testing"

	"millhand/api"
	"millhand/fs"
	"millhand/manifest"
	"millhand/version"
)

func TestSaveExample(t *testing.T) { // P17.3
	v := ok[api.Version](t)(version.New("log"))
	f := ok[api.Fs](t)(fs.Format(64))
	g := ok[api.Fs](t)(manifest.Save(f, v))
	if got, e := manifest.Load(g); e != api.OK || !same(got, v) {
		t.Errorf("%v, error %d", got, e)
	}
	if l := ok[[]string](t)(fs.Names(g)); !slices.Equal(l, []string{"current"}) {
		t.Errorf("the files %q", l)
	}
	got, e := manifest.Load(f)
	wantAlone(t, "Load without a file", e, api.ErrNone, got)
}

// wantSave looks whether Save makes just the file, named current, of just the bytes, and Load tells the version.
func wantSave(t *testing.T, row string, f api.Fs, v api.Version) {
	t.Helper()
	g, e := manifest.Save(f, v)
	if e != api.OK || !sameFs(g, ok[api.Fs](t)(fs.Rename(put(t, f, "next", held(v)), "next", "current"))) {
		t.Errorf("%s: error %d, or other files", row, e)
		return
	}
	if !sameBlocks(blocksOf(t, g, "current"), held(v)) {
		t.Errorf("%s: other blocks", row)
	}
	if got, e := manifest.Load(g); e != api.OK || !same(got, v) || version.Check(got) != api.OK {
		t.Errorf("%s: %v, error %d, is loaded", row, got, e)
	}
	if got, e := manifest.Load(committed(t, g)); e != api.OK || !same(got, v) {
		t.Errorf("%s: %v, error %d, is loaded behind a commit", row, got, e)
	}
}

func TestSave(t *testing.T) { // P17.3, P17.5
	for name, v := range good() {
		wantSave(t, name+", alone", bare(t, 100), v)
		f := beside(t, 180)
		wantSave(t, name+", beside others", f, v)
		for _, old := range []api.Version{of(), of(row(9)), longest()} {
			wantSave(t, name+", behind another one that waits", ok[api.Fs](t)(manifest.Save(f, old)), v)
			wantSave(t, name+", behind another one", committed(t, ok[api.Fs](t)(manifest.Save(f, old))), v)
		}
		wantSave(t, name+", over bytes that are no version's", put(t, f, "current", [][]byte{full(7), full(8)}), v)
	}
}

func TestSaveOfBlocks(t *testing.T) { // P17.3: as many blocks as its bytes need, at the edges
	found := map[int]bool{}
	for n := range 270 {
		v := of(row(2))
		v.Levels[0][1].High = text(min(n+1, 64))
		v.Levels[0][0].High = text(max(1, min(n-63, 64)))
		v.Levels[0] = append(v.Levels[0], table("more", text(max(1, min(n-126, 64))), text(max(64, min(n-190, 64)))))
		size := len(textOf(plain(v)))
		found[size] = true
		wantSave(t, fmt.Sprintf("%d bytes", size), bare(t, 64), v)
	}
	for _, size := range []int{127, 128, 130, 255, 256, 257} { // a text of 128 bytes has two more ahead: no file has 129
		if !found[size] {
			t.Errorf("no version's file has %d bytes", size)
		}
	}
}

func TestSaveWaits(t *testing.T) { // P17.3: it waits, nothing is committed, and all other files are as they were
	f := committed(t, ok[api.Fs](t)(manifest.Save(beside(t, 80), of(row(1)))))
	g := ok[api.Fs](t)(manifest.Save(f, of(row(3))))
	if n := len(held(of(row(3)))); len(g.Disk.Wait) != n || len(g.Disk.Done) != n || !bytes.Equal(g.Disk.Data, f.Disk.Data) || g.Gen != f.Gen || !sameDir(g.Kept, f.Kept) {
		t.Errorf("%d writes wait, %d acts were done, gen %d", len(g.Disk.Wait), len(g.Disk.Done), g.Gen)
	}
	for _, name := range []string{"a", "m", "z"} {
		if !sameBlocks(blocksOf(t, g, name), blocksOf(t, f, name)) {
			t.Errorf("%s has other blocks", name)
		}
	}
	if l := ok[[]string](t)(fs.Names(g)); !slices.Equal(l, []string{"a", "current", "m", "z"}) {
		t.Errorf("the files %q", l)
	}
}

func TestSaveErrorsInOrder(t *testing.T) { // P17.3: fs.Check's, version.Check's, Store's
	for name, f := range badFs(t) {
		for _, v := range []api.Version{of(), {}, of(row(33))} {
			g, e := manifest.Save(f, v)
			wantAlone(t, "Save in files that may not be: "+name, e, api.ErrBad, g)
		}
	}
	there := put(t, bare(t, 64), "next", [][]byte{full(1)})
	small := bare(t, 36)
	refused(func(name string, v api.Version, want api.Errno) {
		for _, f := range []api.Fs{there, small, busy(there, maxActs, maxActs)} {
			g, e := manifest.Save(f, v)
			wantAlone(t, "Save of "+name, e, want, g)
		}
	})
	for name, v := range good() {
		g, e := manifest.Save(there, v)
		wantAlone(t, "Save where next is there", e, api.ErrThere, g)
		g, e = manifest.Save(put(t, there, "current", held(of())), v)
		wantAlone(t, "Save where both are there", e, api.ErrThere, g)
		if len(held(v)) > 2 {
			g, e = manifest.Save(small, v)
			wantAlone(t, "Save without room: "+name, e, api.ErrRoom, g)
			g, e = manifest.Save(busy(bare(t, 100), maxActs-2, 0), v)
			wantAlone(t, "Save on a busy disk: "+name, e, api.ErrFull, g)
		}
	}
	wantSave(t, "as many blocks as there are", bare(t, 34+len(held(longest()))), longest())
	g, e := manifest.Save(bare(t, 33+len(held(longest()))), longest())
	wantAlone(t, "Save with a block less", e, api.ErrRoom, g)
}

func TestSaveBesideTheOldOne(t *testing.T) { // P17.3: the old file's blocks are not given, whether it was committed or not
	for _, f := range []api.Fs{committed(t, ok[api.Fs](t)(manifest.Save(bare(t, 37), of()))), ok[api.Fs](t)(manifest.Save(bare(t, 37), of()))} {
		wantSave(t, "two blocks are free", f, of(row(5)))
		g, e := manifest.Save(f, of(row(20)))
		wantAlone(t, "two blocks are too few", e, api.ErrRoom, g)
	}
}

// crowded is files whose directory has so many bytes; one file of each of these names is there.
func crowded(t *testing.T, size int, names ...string) api.Fs {
	t.Helper()
	f := bare(t, 3600)
	at, left := 2000, size-1
	add := func(name string, extents int) {
		x := api.File{Name: name}
		for range extents {
			x.Extents = append(x.Extents, api.Extent{At: at, Many: 1}) // three bytes: two of At
			at += 2
		}
		f.Dir.Files = append(f.Dir.Files, x)
		left -= 2 + len(name) + 3*extents
	}
	for _, name := range names {
		add(name, 1)
	}
	for i := 0; left > 190; i++ {
		add(fmt.Sprintf("f%02d", i), 50)
	}
	add("g"+text(left%3), left/3-1)
	if left != 0 || fs.Check(f) != api.OK {
		t.Fatalf("%d bytes are left of %d, check %d", left, size, fs.Check(f))
	}
	return f
}

func TestSaveInFullDirectory(t *testing.T) { // P17.3: Store's error, and fs.Rename's
	next := 1 + 4 + 1 + 2 // the bytes of next, of one extent at 34 or so
	for size := 2048 - next - 6; size <= 2048; size++ {
		f := crowded(t, size)
		g, e := manifest.Save(f, of())
		if size+next+3 <= 2048 {
			wantSave(t, "a directory that has room", f, of())
		} else {
			wantAlone(t, fmt.Sprintf("a directory of %d bytes", size), e, api.ErrRoom, g)
		}
		if _, e := manifest.Store(f, "next", nil); (e == api.OK) != (size+next <= 2048) {
			t.Errorf("a directory of %d bytes: Store's error %d", size, e)
		}
		f = crowded(t, size, "current")
		g, e = manifest.Save(f, of())
		if size+next <= 2048 {
			wantSave(t, "a directory that has room beside the old file", f, of())
		} else {
			wantAlone(t, fmt.Sprintf("a directory of %d bytes with the old file", size), e, api.ErrRoom, g)
		}
	}
	f := bare(t, 100)
	for i := range api.MaxFiles - 1 {
		f = ok[api.Fs](t)(fs.Create(f, string(rune('A'+i)), 1))
	}
	wantSave(t, "the last file", f, of())
	g, e := manifest.Save(ok[api.Fs](t)(manifest.Save(f, of())), of())
	wantAlone(t, "no file more", e, api.ErrRoom, g)
}

func TestLoadErrorsInOrder(t *testing.T) { // P17.3: fs.Size's error of current
	for name, f := range badFs(t) {
		v, e := manifest.Load(f)
		wantAlone(t, "Load of files that may not be: "+name, e, api.ErrBad, v)
	}
	f := put(t, beside(t, 80), "next", held(of()))
	v, e := manifest.Load(f)
	wantAlone(t, "Load of none", e, api.ErrNone, v)
	f = ok[api.Fs](t)(manifest.Save(beside(t, 80), of()))
	v, e = manifest.Load(ok[api.Fs](t)(fs.Delete(f, "current")))
	wantAlone(t, "Load of what is deleted", e, api.ErrNone, v)
}

// plainLoad is the version of a file of these blocks, if they are just those of a version's file. (A text of a version has its length in one byte or two.)
func plainLoad(l [][]byte) (api.Version, bool) {
	b := slices.Concat(l...)
	for from := 1; from <= 2; from++ {
		for to := from; to <= len(b); to++ {
			if v, is := plainRead(b[from:to]); is && sameBlocks(l, held(v)) {
				return v, true
			}
		}
	}
	return api.Version{}, false
}

// wantLoad looks whether Load tells the version of a file of these blocks, or that there is none.
func wantLoad(t *testing.T, row string, f api.Fs, l [][]byte) bool {
	t.Helper()
	v, e := manifest.Load(f)
	want, is := plainLoad(l)
	if !is {
		wantAlone(t, row, e, api.ErrBad, v)
	} else if e != api.OK || !same(v, want) {
		t.Errorf("%s: %v, error %d, not %v", row, v, e, want)
	}
	return is
}

func TestLoadOfOtherBytes(t *testing.T) { // P17.3: just what Save would store
	b := textOf(plain(of(row(2))))
	two := textOf(plain(of(row(8))))
	version := plain(of(row(2)))
	for name, l := range map[string][][]byte{
		"noughts":                    {full(0)},
		"all 255":                    {full(255)},
		"a block more":               append(stored(b), full(0)),
		"two blocks, a block less":   stored(two)[:1],
		"two blocks, a block more":   append(stored(two), full(0)),
		"two blocks, the other way":  {stored(two)[1], stored(two)[0]},
		"a byte behind":              stored(append(slices.Clone(b), 1)),
		"a byte at the end":          stored(append(append(slices.Clone(b), make([]byte, 127-len(b))...), 1)),
		"no text, but the version":   stored(version),
		"a text of a text":           stored(textOf(b)),
		"a byte ahead":               stored(append([]byte{0}, b...)),
		"a length of a byte more":    stored(append([]byte{b[0] | 128, 0}, version...)),
		"a text that is longer":      stored(append([]byte{b[0] + 1}, version...)),
		"a text that is shorter":     stored(append([]byte{b[0] - 1}, version...)),
		"a text as long as all":      stored(append([]byte{127}, version...)),
		"a text longer than all":     stored(append([]byte{128, 1}, version...)),
		"a text of 2^64 - 1":         stored(append([]byte{255, 255, 255, 255, 255, 255, 255, 255, 255, 1}, version...)),
		"a text empty":               stored(textOf(nil)),
		"a version that may not be":  stored(textOf(plain(but(of(row(2)), func(v *api.Version) { v.Next = 0 })))),
		"a version of 33 tables":     stored(textOf(plain(of(row(33))))),
		"a version without a byte":   stored(textOf(version[:len(version)-1])),
		"a version and a byte":       stored(textOf(append(slices.Clone(version), 0))),
		"128 blocks":                 slices.Repeat([][]byte{full(1)}, 128),
		"129 blocks, a version":      append(stored(b), slices.Repeat([][]byte{full(0)}, 128)...),
		"129 blocks, a text of them": stored(append([]byte{253, 127}, make([]byte, 129*128-3)...)),
		"130 blocks of bytes":        slices.Repeat([][]byte{full(1)}, 130),
	} {
		if wantLoad(t, name, put(t, bare(t, 200), "current", l), l) {
			t.Errorf("%s: it is a version's file", name)
		}
	}
	for name, v := range good() {
		if !wantLoad(t, name, put(t, bare(t, 100), "current", held(v)), held(v)) {
			t.Errorf("%s: it is no version's file", name)
		}
	}
}

func TestLoadOfLongFile(t *testing.T) { // P17.3, R1
	f := put(t, bare(t, api.MaxBlocks), "current", held(of()))
	f.Dir.Files[0].Extents[0].Many = api.MaxBlocks - api.First
	v, e := manifest.Load(f)
	wantAlone(t, "a file of all blocks", e, api.ErrBad, v)
}

func TestLoadOfChanged(t *testing.T) { // P17.3: each byte of some files is each of some others
	may := 0
	for _, v := range []api.Version{of(), of(row(1)), of(row(9))} {
		f := committed(t, put(t, bare(t, 60), "current", held(v)))
		b := f.Disk.Data[f.Dir.Files[0].Extents[0].At*api.Block:][:len(held(v))*api.Block]
		for i, was := range b {
			for _, x := range []byte{0, 1, 2, 127, 128, 255, was + 1, was - 1, was ^ 128} {
				b[i] = x
				if wantLoad(t, fmt.Sprintf("%d at %d", x, i), f, slices.Collect(slices.Chunk(b, api.Block))) {
					may++
				}
			}
			b[i] = was
		}
	}
	if may < 500 {
		t.Errorf("only %d of them are of versions", may)
	}
}

func TestLoadOfWhatWaits(t *testing.T) { // P17.3: the blocks as they are now
	f := committed(t, ok[api.Fs](t)(manifest.Save(bare(t, 60), of())))
	f = ok[api.Fs](t)(fs.Put(f, "current", 0, full(3)))
	v, e := manifest.Load(f)
	wantAlone(t, "bytes that wait", e, api.ErrBad, v)
	w := but(of(), func(v *api.Version) { v.Seq = 99 })
	f = ok[api.Fs](t)(fs.Put(f, "current", 0, held(w)[0]))
	if v, e := manifest.Load(f); e != api.OK || !same(v, w) {
		t.Errorf("%v, error %d, not %v", v, e, w)
	}
}
