package mount_test

import (
	"reflect"
	"slices"
	"testing"

	"millhand/api"
	"millhand/fs"
	"millhand/mount"
)

// mark is a value of a type that nothing else in the tests has.
func mark(kind reflect.Type) reflect.Value {
	v := reflect.New(kind).Elem()
	switch kind.Kind() {
	case reflect.Bool:
		v.SetBool(true)
	case reflect.Int:
		v.SetInt(-77)
	case reflect.Uint8:
		v.SetUint(201)
	case reflect.String:
		v.SetString("mark")
	case reflect.Struct:
		for i := range v.NumField() {
			v.Field(i).Set(mark(v.Field(i).Type()))
		}
	}
	return v
}

// deep is a copy of a value with all of its lists, each of which is made anew by list.
func deep(v reflect.Value, list func(reflect.Value) reflect.Value) reflect.Value {
	out := reflect.New(v.Type()).Elem()
	switch v.Kind() {
	case reflect.Slice:
		out.Set(list(v))
		for i := 0; i < out.Len() && v.Type().Elem().Kind() == reflect.Struct; i++ { // others have no lists of their own
			out.Index(i).Set(deep(out.Index(i), list))
		}
	case reflect.Struct:
		for i := range v.NumField() {
			out.Field(i).Set(deep(v.Field(i), list))
		}
	default:
		out.Set(v)
	}
	return out
}

// spared is a copy of a value in which each list has room behind it that is marked.
func spared[T any](x T) T {
	return deep(reflect.ValueOf(x), func(v reflect.Value) reflect.Value {
		out := reflect.MakeSlice(v.Type(), v.Len()+3, v.Len()+3)
		reflect.Copy(out, v)
		for i := v.Len(); i < out.Len(); i++ {
			out.Index(i).Set(mark(v.Type().Elem()))
		}
		return out.Slice(0, v.Len())
	}).Interface().(T)
}

// photo is a copy of a value in which each list is as long as it has room: what must not change.
func photo(x any) any {
	return deep(reflect.ValueOf(x), func(v reflect.Value) reflect.Value {
		out := reflect.MakeSlice(v.Type(), v.Cap(), v.Cap())
		reflect.Copy(out, v.Slice(0, v.Cap()))
		return out
	}).Interface()
}

// span is the memory of a list, its room too.
type span struct{ from, to uintptr }

// spans are those of all lists that a value has.
func spans(x any) []span {
	var l []span
	deep(reflect.ValueOf(x), func(v reflect.Value) reflect.Value {
		if v.Cap() > 0 {
			l = append(l, span{v.Pointer(), v.Pointer() + uintptr(v.Cap())*v.Type().Elem().Size()})
		}
		return reflect.AppendSlice(reflect.Zero(v.Type()), v)
	})
	return l
}

// apart tells whether no two lists of all that is handed in share memory.
func apart(l ...any) bool {
	var all []span
	for _, x := range l {
		all = append(all, spans(x)...)
	}
	slices.SortFunc(all, func(a, b span) int { return int(int64(a.from) - int64(b.from)) })
	for i := range all {
		if i > 0 && all[i-1].to > all[i].from {
			return false
		}
	}
	return true
}

func TestApart(t *testing.T) { // that the tests below see what is shared
	f := spared(earlier())
	if !apart(f, spared(f)) {
		t.Error("copies share memory")
	}
	shared := f
	shared.Kept = f.Dir
	if apart(f, f.Disk.Data[5:6]) || apart(f, f.Disk.Wait[1].Data) || apart(shared) || apart(f, f.Dir.Files[1].Extents[1:]) {
		t.Error("what is shared is not seen")
	}
	if f.Disk.Data[:len(f.Disk.Data)+1][len(f.Disk.Data)] != 201 || f.Disk.Wait[:3][2].N != -77 {
		t.Error("the room behind a list is not marked")
	}
}

func TestOpenAndMemory(t *testing.T) { // P7.3: what is handed in is only read, what is answered is new
	disks := noDisks()
	disks["two files"] = done(waiting(laid(64, 4, two()), put(34, 1), put(60, 2)), synced(), wrote(34, 1), wrote(60, 2))
	disks["many files"] = laid(80, 5, lots(40))
	disks["no files"] = laid(64, 1, api.Dir{})
	disks["a block below First waits"] = waiting(laid(64, 4, two()), put(33, 1))
	disks["no directory"] = over(laid(64, 4, two()), 2, full(255))
	disks["no superblock"] = blank(64)
	for name, d := range disks {
		d = spared(d)
		was := photo(d)
		f, e := mount.Open(d)
		g, e2 := mount.Open(d)
		if !reflect.DeepEqual(photo(d), was) {
			t.Errorf("%s: the disk is changed", name)
		}
		if !apart(d, f, g) {
			t.Errorf("%s: memory is shared", name)
		}
		if e != e2 || !reflect.DeepEqual(f, g) {
			t.Errorf("%s: two answers", name)
		}
	}
}

func TestOpenedIsItsOwn(t *testing.T) { // P7.3: what is done to the one is not seen in the other
	d := done(waiting(laid(64, 4, two()), put(34, 1)), wrote(34, 1))
	want := ok[api.Fs](t)(mount.Open(d))
	f := ok[api.Fs](t)(mount.Open(d))
	f.Dir.Files[0].Name = "z"
	f.Dir.Files[1].Extents[1].At = 7
	if !sameDir(f.Kept, want.Kept) {
		t.Error("the committed directory is the directory's memory")
	}
	f = ok[api.Fs](t)(mount.Open(d))
	clear(d.Data)
	clear(d.Wait[0].Data)
	d.Wait[0].N, d.Done[0] = 0, synced()
	if !reflect.DeepEqual(f, want) {
		t.Error("what was opened changes with the disk")
	}
}

func TestCrashAndMemory(t *testing.T) { // P7.3: what is handed in is only read, what is answered is new
	bad := earlier()
	bad.Gen++
	for name, row := range rows() {
		after := behind(t, earlier(), row...)
		for how, c := range map[string]struct{ before, after api.Fs }{
			"right":            {earlier(), after},
			"bad":              {bad, after},
			"the other way":    {after, earlier()},
			"cleared":          {earlier(), behind(t, after, fs.Clear)},
			"a bad later one":  {earlier(), bad},
			"of another state": {filesOf(laid(64, 4, two()), 4, two()), after},
		} {
			for many := -1; many <= len(after.Disk.Done)+1; many++ {
				before, after, keep := spared(c.before), spared(c.after), spared([]bool{false, true})
				was := []any{photo(before), photo(after), photo(keep)}
				d, e := mount.Crash(before, after, many, keep)
				x, e2 := mount.Crash(before, after, many, keep)
				if !reflect.DeepEqual([]any{photo(before), photo(after), photo(keep)}, was) {
					t.Errorf("%s, %s: what is handed in is changed", name, how)
				}
				if !apart(before, after, keep, d, x) {
					t.Errorf("%s, %s: memory is shared", name, how)
				}
				if e != e2 || !reflect.DeepEqual(d, x) {
					t.Errorf("%s, %s: two answers", name, how)
				}
			}
		}
	}
}

func TestCrashReadsNoRoom(t *testing.T) { // P7.3, P7.2: what stands behind a list counts for nothing
	for name, row := range rows() {
		after := behind(t, earlier(), row...)
		for many := range len(after.Disk.Done) + 1 {
			want := ok[api.Disk](t)(mount.Crash(earlier(), after, many, []bool{true}))
			d := ok[api.Disk](t)(mount.Crash(spared(earlier()), spared(after), many, spared([]bool{true})))
			if !sameDisk(d, want) {
				t.Errorf("%s, %d acts: another disk", name, many)
			}
		}
	}
}
