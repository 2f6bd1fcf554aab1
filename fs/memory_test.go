package fs_test

import (
	"bytes"
	"reflect"
	"slices"
	"testing"

	"millhand/api"
	"millhand/fs"
)

// spared is a copy of a list with room behind it that is filled.
func spared[T any](l []T, mark T) []T {
	return append(slices.Clone(l), mark, mark, mark)[: len(l) : len(l)+3]
}

var (
	markPut    = api.Put{N: 77}
	markAct    = api.Act{Sync: true, Put: api.Put{N: 78}}
	markExtent = api.Extent{At: -77, Many: -78}
	markFile   = api.File{Name: "mark"}
)

const markByte = 201

func sparedDir(d api.Dir) api.Dir {
	out := api.Dir{Files: spared(d.Files, markFile)}
	for i := range out.Files {
		out.Files[i].Extents = spared(out.Files[i].Extents, markExtent)
	}
	return out
}

// sparedFs is a copy of files with room behind all their lists that is filled.
func sparedFs(f api.Fs) api.Fs {
	out := api.Fs{Gen: f.Gen, Dir: sparedDir(f.Dir), Kept: sparedDir(f.Kept)}
	out.Disk = api.Disk{Data: spared(f.Disk.Data, markByte), Wait: spared(f.Disk.Wait, markPut), Done: spared(f.Disk.Done, markAct)}
	for i, p := range out.Disk.Wait {
		out.Disk.Wait[i].Data = spared(p.Data, markByte)
	}
	for i, a := range out.Disk.Done {
		if !a.Sync {
			out.Disk.Done[i].Put.Data = spared(a.Put.Data, markByte)
		}
	}
	return out
}

// whole is a copy of a value in which each list is as long as it has room: what must not change.
func whole(v reflect.Value) reflect.Value {
	out := reflect.New(v.Type()).Elem()
	switch v.Kind() {
	case reflect.Slice:
		v = v.Slice(0, v.Cap())
		out.Set(reflect.MakeSlice(v.Type(), v.Len(), v.Len()))
		for i := range v.Len() {
			out.Index(i).Set(whole(v.Index(i)))
		}
	case reflect.Struct:
		for i := range v.NumField() {
			out.Field(i).Set(whole(v.Field(i)))
		}
	default:
		out.Set(v)
	}
	return out
}

// photo is that of files.
func photo(f api.Fs) any { return whole(reflect.ValueOf(f)).Interface() }

// span is the memory of a list, its room too.
type span struct{ from, to uintptr }

// spans are those of all lists that a value has.
func spans(v reflect.Value) []span {
	var l []span
	switch v.Kind() {
	case reflect.Slice:
		if v.Cap() > 0 {
			from := v.Pointer()
			l = append(l, span{from, from + uintptr(v.Cap())*v.Type().Elem().Size()})
		}
		for i := range v.Len() {
			l = append(l, spans(v.Index(i))...)
		}
	case reflect.Struct:
		for i := range v.NumField() {
			l = append(l, spans(v.Field(i))...)
		}
	}
	return l
}

// apart tells whether no two lists of all that is handed in share memory.
func apart(l ...any) bool {
	var all []span
	for _, x := range l {
		all = append(all, spans(reflect.ValueOf(x))...)
	}
	slices.SortFunc(all, func(a, b span) int {
		if a.from < b.from {
			return -1
		}
		return 1
	})
	for i := range all {
		if i > 0 && all[i-1].to > all[i].from {
			return false
		}
	}
	return true
}

// given are files that are handed in: of every kind that may be, and some that may not.
func given() map[string]api.Fs {
	out := map[string]api.Fs{
		"base": base(), "spoken": spoken(), "no files": laid(40, 1, api.Dir{}), "many": laid(80, 2, many(40)),
		"deleted": withDir(base(), api.Dir{}), "holes": holed(60, 9), "greatest": laid(64, greatest, base().Dir),
	}
	odd := spoken()
	odd.Gen++
	out["another gen"] = odd
	odd = spoken()
	odd.Dir.Files[0].Name = "z"
	out["names that fall"] = odd
	return out
}

func TestArgumentsAreOnlyRead(t *testing.T) { // P6.5: neither lists nor the room behind them are written to
	for name, f := range given() {
		x, b := sparedFs(f), spared(full(7), markByte)
		was := photo(x)
		calls := turns(b)
		calls["Get"] = func(f api.Fs) (api.Fs, api.Errno) { _, e := fs.Get(f, "b", 1); return api.Fs{}, e }
		calls["Size"] = func(f api.Fs) (api.Fs, api.Errno) { _, e := fs.Size(f, "b"); return api.Fs{}, e }
		calls["Names"] = func(f api.Fs) (api.Fs, api.Errno) { _, e := fs.Names(f); return api.Fs{}, e }
		calls["Free"] = func(f api.Fs) (api.Fs, api.Errno) { _, e := fs.Free(f); return api.Fs{}, e }
		calls["Check"] = func(f api.Fs) (api.Fs, api.Errno) { return api.Fs{}, fs.Check(f) }
		for call, do := range calls {
			do(x)
			if !reflect.DeepEqual(photo(x), was) {
				t.Errorf("%s changed what it was handed: %s", call, name)
				x = sparedFs(f)
			}
			if !bytes.Equal(b[:cap(b)], append(full(7), markByte, markByte, markByte)) {
				t.Errorf("%s changed the block that was put", call)
				b = spared(full(7), markByte)
			}
		}
	}
}

func TestAnswersAreNewMemory(t *testing.T) { // P6.5: neither the arguments' memory, nor another answer's, nor any twice in one
	for name, f := range given() {
		x, b := sparedFs(f), spared(full(7), markByte)
		if !apart(x, b) {
			t.Fatalf("%s: the arguments of the test share memory", name)
		}
		for call, do := range turns(b) {
			one, _ := do(x)
			two, _ := do(x)
			if !apart(x, b, one, two) {
				t.Errorf("%s of %s: the answer is not new memory", call, name)
			}
		}
		got, _ := fs.Get(x, "b", 1)
		again, _ := fs.Get(x, "b", 1)
		last, _ := fs.Get(x, "a", 0)
		l, _ := fs.Names(x)
		m, _ := fs.Names(x)
		if !apart(x, got, again, last, l, m) {
			t.Errorf("Get or Names of %s: the answer is not new memory", name)
		}
	}
	one, _ := fs.Format(64)
	two, _ := fs.Format(64)
	if !apart(one, two) {
		t.Error("Format: the answer is not new memory")
	}
}

func TestGetOfWhatWaitsIsNewMemory(t *testing.T) { // P6.5
	f := spoken()
	for _, i := range []int{0, 1, 2} { // waits twice; lasts; lasts
		b, e := fs.Get(f, "c", i)
		if e != api.OK || !apart(f.Disk.Wait[0], f.Disk.Wait[2], f.Disk.Data, b) {
			t.Errorf("Get(c, %d): error %d, or memory of the disk", i, e)
		}
	}
}

func TestNothingIsKept(t *testing.T) { // P6.5: what is handed in may change behind the call
	for name, f := range given() {
		for call := range turns(nil) {
			x, b := sparedFs(f), spared(full(7), markByte)
			g, _ := turns(b)[call](x)
			was := photo(g)
			for _, l := range [][]byte{b, x.Disk.Data} {
				for i := range l {
					l[i] = 99
				}
			}
			clear(x.Dir.Files)
			clear(x.Kept.Files)
			clear(x.Disk.Wait)
			clear(x.Disk.Done)
			if !reflect.DeepEqual(photo(g), was) {
				t.Errorf("%s of %s keeps what it was handed", call, name)
			}
		}
	}
}

func TestAnswersHangOnArgumentsAlone(t *testing.T) { // R2
	calls := turns(full(7))
	for name, f := range given() {
		was := map[string]api.Fs{}
		for call, do := range calls {
			was[call], _ = do(f)
		}
		for call, do := range calls {
			if g, _ := do(f); !same(g, was[call]) {
				t.Errorf("%s of %s, once more: another answer", call, name)
			}
		}
	}
}
