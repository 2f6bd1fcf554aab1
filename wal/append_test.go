package wal_test

import (
	"slices"
	"testing"

	"millhand/api"
	"millhand/fs"
	"millhand/wal"
)

// wantAppend looks whether Append puts just the blocks of the next record behind the log, in order, syncs, and tells what Open tells.
func wantAppend(t *testing.T, row string, f api.Fs, record []byte) (api.Fs, api.Wal) {
	t.Helper()
	w, l := opened(t, f, "log")
	g, x, e := wal.Append(f, w, record)
	salt := max(w.Last, w.Greatest) + 1
	blocks := made(w.Gen, uint32(w.Number+1), salt, w.Last, record)
	want := f
	for i, b := range blocks {
		want = ok[api.Fs](t)(fs.Put(want, "log", 1+w.Blocks+i, b))
	}
	want = ok[api.Fs](t)(fs.Sync(want))
	if e != api.OK || !sameFs(g, want) {
		t.Fatalf("%s, %d bytes: error %d, or other files", row, len(record), e)
	}
	if x.Name != "log" || x.Gen != w.Gen || x.Number != w.Number+1 || x.Last != salt || x.Blocks != w.Blocks+len(blocks) {
		t.Errorf("%s, %d bytes: the log %v behind %v", row, len(record), x, w)
	}
	wantLog(t, row, g, x, append(slices.Clone(l), record))
	return g, x
}

func TestAppend(t *testing.T) { // P9.3
	for name, c := range logs() {
		if c.want.Greatest == greatest {
			continue
		}
		for _, size := range []int{0, 1, 106, 107, 108, 213, 214, 215} {
			f := holding(t, append(slices.Clone(c.blocks), blank(3)...))
			wantAppend(t, name, f, some(size, 8))
		}
	}
}

func TestAppendGreatest(t *testing.T) { // P9.3: of what stands behind the new record, and no longer of what it is written over
	blocks := file(6, log(), [][]byte{begun(6, 1, 40, 1), begun(6, 1, 1, 30), begun(6, 1, 20, 1), begun(7, 1, 90, 90)})
	for size, want := range map[int]uint32{0: 30, 107: 30, 108: 20, 214: 20, 215: 0, 321: 0, 322: 0} {
		_, w := wantAppend(t, "blocks behind", holding(t, blocks), some(size, 8))
		if w.Greatest != want || w.Last != 41 {
			t.Errorf("%d bytes: Greatest %d, Last %d, not %d, 41", size, w.Greatest, w.Last, want)
		}
	}
}

func TestAppendOneByOne(t *testing.T) { // P9.3, P9.5: what was appended is there, in order
	f, w := begin(t, bare(t, 300, full(17)), "log", 200)
	f = committed(t, f)
	var want [][]byte
	blocks := 0
	for i := range 60 {
		r := some(i*i*7%400, i)
		f, w = wantAppend(t, "one by one", ok[api.Fs](t)(fs.Clear(f)), r)
		want = append(want, r)
		blocks += max(1, (len(r)+room-1)/room)
		if w != (api.Wal{Name: "log", Gen: w.Gen, Number: i + 1, Last: uint32(i + 1), Blocks: blocks}) {
			t.Errorf("behind %d: %v", i+1, w)
		}
		wantLog(t, "one by one", f, w, want)
		if blocks > 190 {
			break
		}
	}
}

func TestAppendOfGreatRecords(t *testing.T) { // P9.3: MaxRecord bytes and one more
	f := holding(t, file(1, blank(320)))
	f, w := wantAppend(t, "great", f, some(api.MaxRecord, 1))
	g, x, e := wal.Append(f, w, some(api.MaxRecord+1, 1))
	wantAlone(t, "one more", e, api.ErrText, g, x)
	g, x, e = wal.Append(f, w, make([]byte, 1<<20))
	wantAlone(t, "many more", e, api.ErrText, g, x)
	wantAppend(t, "great once more", f, some(api.MaxRecord, 2))
}

func TestAppendIsFull(t *testing.T) { // P9.3: the greatest of Last and Greatest
	for _, c := range []struct {
		last, salt, ahead uint32
		want              api.Errno
	}{
		{greatest, 0, 0, api.ErrFull}, {greatest, 5, 6, api.ErrFull}, {5, greatest, 0, api.ErrFull}, {5, 0, greatest, api.ErrFull}, {greatest, greatest, greatest, api.ErrFull},
		{greatest - 1, 0, 0, api.OK}, {greatest - 1, 5, 6, api.OK}, {5, greatest - 1, 0, api.OK}, {5, 0, greatest - 1, api.OK}, {0, greatest - 1, 3, api.OK},
	} {
		f := holding(t, file(2, made(2, 1, c.last, 0, some(3, 3)), blank(2), [][]byte{begun(2, 8, c.salt, c.ahead)}))
		if c.want == api.OK {
			if _, w := wantAppend(t, "one less than the greatest", f, some(9, 1)); w.Last != greatest {
				t.Errorf("%v: Last is %d", c, w.Last)
			}
			continue
		}
		w, _ := opened(t, f, "log")
		g, x, e := wal.Append(f, w, some(9, 1))
		wantAlone(t, "the greatest", e, c.want, g, x)
	}
}

func TestAppendTillThereIsNoRoom(t *testing.T) { // P9.3: just as many bytes as there is room for, and one more
	for free := range 5 {
		f := holding(t, file(6, log(), blank(free)))
		w, _ := opened(t, f, "log")
		for _, size := range []int{free*room + 1, free*room + 200, api.MaxRecord} {
			g, x, e := wal.Append(f, w, some(size, 1))
			wantAlone(t, "no room", e, api.ErrStall, g, x)
		}
		if free == 0 {
			g, x, e := wal.Append(f, w, nil)
			wantAlone(t, "no room for a record without bytes", e, api.ErrStall, g, x)
			continue
		}
		g, x := wantAppend(t, "just as many", f, some(free*room, 1))
		g, x, e := wal.Append(g, x, nil)
		wantAlone(t, "no room behind", e, api.ErrStall, g, x)
	}
}

// others are logs that differ from one in one field each.
func others(w api.Wal) map[string]api.Wal {
	out := map[string]api.Wal{}
	put := func(name string, turn func(*api.Wal)) {
		x := w
		turn(&x)
		out[name] = x
	}
	put("Gen more", func(x *api.Wal) { x.Gen++ })
	put("Gen less", func(x *api.Wal) { x.Gen-- })
	put("Gen 0", func(x *api.Wal) { x.Gen = 0 })
	put("Number more", func(x *api.Wal) { x.Number++ })
	put("Number less", func(x *api.Wal) { x.Number-- })
	put("Number below 0", func(x *api.Wal) { x.Number = -1 << 63 })
	put("Number in 32 bits", func(x *api.Wal) { x.Number += 1 << 32 })
	put("Last more", func(x *api.Wal) { x.Last++ })
	put("Last less", func(x *api.Wal) { x.Last-- })
	put("Greatest more", func(x *api.Wal) { x.Greatest++ })
	put("Greatest less", func(x *api.Wal) { x.Greatest-- })
	put("Blocks more", func(x *api.Wal) { x.Blocks++ })
	put("Blocks less", func(x *api.Wal) { x.Blocks-- })
	put("Blocks below 0", func(x *api.Wal) { x.Blocks = -9 })
	put("Blocks beyond the file", func(x *api.Wal) { x.Blocks = 1 << 62 })
	put("Last and Greatest", func(x *api.Wal) { x.Last, x.Greatest = x.Greatest, x.Last })
	put("another log's name", func(x *api.Wal) { x.Name = "twin" })
	return out
}

// beside is files with a log of three records, behind which a torn one stands, and another log, twin, of its gen.
func beside(t *testing.T) (api.Fs, api.Wal) {
	t.Helper()
	f := holding(t, file(6, log(), blank(3), [][]byte{begun(6, 1, 40, 1)}))
	f = ok[api.Fs](t)(fs.Create(f, "twin", 2))
	f = ok[api.Fs](t)(fs.Put(f, "twin", 0, head(6)))
	w, _ := opened(t, f, "log")
	return f, w
}

func TestLogThatIsNotAsItIs(t *testing.T) { // P9.3: in each of its fields
	f, w := beside(t)
	if w != (api.Wal{Name: "log", Gen: 6, Number: 3, Last: 7, Greatest: 40, Blocks: 5}) {
		t.Fatalf("the log of the test is %v", w)
	}
	for name, x := range others(w) {
		for _, r := range [][]byte{nil, some(20, 1), some(4000, 1), some(api.MaxRecord+1, 1)} {
			g, y, e := wal.Append(f, x, r)
			wantAlone(t, "Append, "+name, e, api.ErrBad, g, y)
		}
		n, e := wal.Room(f, x)
		wantAlone(t, "Room, "+name, e, api.ErrBad, n)
	}
	g, x := longer(t, f, w, some(5, 1))
	h, y, e := wal.Append(g, w, some(5, 1))
	wantAlone(t, "the log of before", e, api.ErrBad, h, y)
	h, y, e = wal.Append(f, x, some(5, 1))
	wantAlone(t, "the log of later", e, api.ErrBad, h, y)
	wantAppend(t, "the log as it is", f, some(5, 1))
}

func TestAppendAndRoomErrorsInOrder(t *testing.T) { // P9.3: fs.Check's, Open's, that of the log, and then those of Append
	f, w := beside(t)
	far := some(api.MaxRecord+1, 1)
	for name, g := range bad(t) {
		for _, x := range []string{"log", "none", "", "twin"} {
			h, y, e := wal.Append(g, api.Wal{Name: x}, far)
			wantAlone(t, "Append to files that may not be: "+name, e, api.ErrBad, h, y)
			n, e := wal.Room(g, api.Wal{Name: x})
			wantAlone(t, "Room of files that may not be: "+name, e, api.ErrBad, n)
		}
	}
	for name, want := range map[string]api.Errno{"": api.ErrName, "12345678901234567": api.ErrName, "none": api.ErrNone, "ahead": api.ErrBad, "rest": api.ErrBad, "twin": api.ErrBad} {
		x := w
		x.Name = name
		for _, r := range [][]byte{nil, far} {
			h, y, e := wal.Append(f, x, r)
			wantAlone(t, "Append to "+name, e, want, h, y)
		}
		n, e := wal.Room(f, x)
		wantAlone(t, "Room of "+name, e, want, n)
	}
	h, y, e := wal.Append(f, api.Wal{}, nil)
	wantAlone(t, "Append to no log", e, api.ErrName, h, y)
}

func TestAppendErrorsInOrder(t *testing.T) { // P9.3: the record's length, the salt, the room, fs.Put's and Sync's
	none := file(6, made(6, 1, greatest, 0, nil)) // no room, and no salt
	noRoom := file(6, made(6, 1, 9, 0, nil))
	roomy := file(6, made(6, 1, 9, 0, nil), blank(2))
	full := file(6, made(6, 1, greatest, 0, nil), blank(2))
	for _, c := range []struct {
		name   string
		blocks [][]byte
		acts   int
		size   int
		want   api.Errno
	}{
		{"too long, no salt, no room", none, maxActs, api.MaxRecord + 1, api.ErrText},
		{"too long, no salt", full, maxActs, api.MaxRecord + 1, api.ErrText},
		{"too long, no room", noRoom, maxActs, api.MaxRecord + 1, api.ErrText},
		{"too long", roomy, 0, api.MaxRecord + 1, api.ErrText},
		{"no salt, no room", none, 0, 5, api.ErrFull},
		{"no salt", full, 0, 5, api.ErrFull},
		{"no room, MaxActs were done", noRoom, maxActs, 5, api.ErrStall},
		{"not so much room, MaxActs were done", roomy, maxActs, 2*room + 1, api.ErrStall},
		{"MaxActs were done", roomy, maxActs, 5, api.ErrFull},
		{"one less: the sync is too much", roomy, maxActs - 1, 5, api.ErrFull},
		{"two less: so is it behind two blocks", roomy, maxActs - 2, room + 1, api.ErrFull},
	} {
		f := busy(holding(t, c.blocks), c.acts)
		w, _ := opened(t, f, "log")
		g, x, e := wal.Append(f, w, some(c.size, 1))
		wantAlone(t, c.name, e, c.want, g, x)
	}
	wantAppend(t, "two acts are left", busy(holding(t, roomy), maxActs-2), some(room, 1))
	wantAppend(t, "three acts are left", busy(holding(t, roomy), maxActs-3), some(room+1, 1))
}

func TestAppendWhereSomethingWaits(t *testing.T) { // P9.3: it is synced, too
	f := holding(t, file(6, log(), blank(4)))
	f = ok[api.Fs](t)(fs.Put(f, "rest", 1, full(44)))
	f = ok[api.Fs](t)(fs.Create(f, "more", 1))
	g, _ := wantAppend(t, "others wait", f, some(9, 9))
	b := ok[[]byte](t)(fs.Get(g, "rest", 1))
	if len(g.Disk.Wait) != 0 || !same([][]byte{b}, [][]byte{full(44)}) || g.Gen != f.Gen || len(g.Kept.Files) != 3 {
		t.Errorf("%d wait, gen %d, %d files are committed", len(g.Disk.Wait), g.Gen, len(g.Kept.Files))
	}
}

func TestRoom(t *testing.T) { // P9.3
	for free, want := range map[int]int{
		0: -1, 1: 107, 2: 214, 3: 321, 152: 152 * room, 153: 16371, 154: api.MaxRecord, 155: api.MaxRecord, 400: api.MaxRecord,
	} {
		f := holding(t, file(6, log(), blank(free)))
		w, _ := opened(t, f, "log")
		if n, e := wal.Room(f, w); n != want || e != api.OK {
			t.Errorf("%d blocks behind the log: Room %d, error %d, not %d", free, n, e, want)
		}
		if want < 0 || free > 200 {
			continue
		}
		longer(t, f, w, some(want, 1))
		if _, _, e := wal.Append(f, w, some(want+1, 1)); e != api.ErrStall && want < api.MaxRecord || e != api.ErrText && want == api.MaxRecord {
			t.Errorf("%d blocks behind the log: Append of one more than Room, error %d", free, e)
		}
	}
	f, w := begin(t, bare(t, 64), "log", 2)
	if n, e := wal.Room(f, w); n != 107 || e != api.OK {
		t.Errorf("a new log of two blocks: Room %d, error %d", n, e)
	}
}

func TestRoomCountsBlocksAlone(t *testing.T) { // P9.3: neither salts nor acts that were done
	f := busy(holding(t, file(6, made(6, 1, greatest, 0, nil), [][]byte{begun(6, 1, greatest, 1), full(3)})), maxActs)
	w, _ := opened(t, f, "log")
	if n, e := wal.Room(f, w); n != 214 || e != api.OK {
		t.Errorf("Room %d, error %d", n, e)
	}
}

func TestExamples(t *testing.T) { // the chapter's table
	empty := ok[api.Fs](t)(fs.Format(64))
	f, w := begin(t, empty, "log", 4)
	f = ok[api.Fs](t)(fs.Commit(f))
	if w.Gen != 1 || w.Number != 0 {
		t.Errorf("the log: %v", w)
	}
	wantLog(t, "the log", f, w, nil)
	if n, e := wal.Room(f, w); n != 321 || e != api.OK {
		t.Errorf("Room: %d, error %d", n, e)
	}
	one, x := longer(t, f, w, []byte("abc"))
	wantLog(t, "behind the first one", one, x, [][]byte{[]byte("abc")})
	two, y := longer(t, one, x, some(108, 1))
	n, e := wal.Room(two, y)
	if y.Blocks != 3 || n != -1 || e != api.OK {
		t.Errorf("%d blocks, Room %d, error %d", y.Blocks, n, e)
	}
	g, z, e := wal.Append(two, y, nil)
	wantAlone(t, "Append without room", e, api.ErrStall, g, z)
	g, z, e = wal.Append(one, w, nil)
	wantAlone(t, "Append of a log that is not as it is", e, api.ErrBad, g, z)
	g, z, e = wal.New(empty, "log", 1)
	wantAlone(t, "New of one block", e, api.ErrArg, g, z)
	z, l, e := wal.Open(empty, "x")
	wantAlone(t, "Open of none", e, api.ErrNone, z, l)
}
