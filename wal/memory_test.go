package wal_test

import (
	"reflect"
	"slices"
	"testing"

	"millhand/api"
	"millhand/fs"
	"millhand/wal"
)

// mark is a value of a type that nothing else in the tests has.
func mark(kind reflect.Type) reflect.Value {
	v := reflect.New(kind).Elem()
	switch kind.Kind() {
	case reflect.Int:
		v.SetInt(-77)
	case reflect.Uint8:
		v.SetUint(201)
	case reflect.String:
		v.SetString("mark")
	case reflect.Struct:
		for i := range v.NumField() {
			v.Field(i).Set(mark(v.Field(i).Type()))
		}
	}
	return v
}

// deep is a copy of a value with all of its lists, each of which is made anew by list.
func deep(v reflect.Value, list func(reflect.Value) reflect.Value) reflect.Value {
	out := reflect.New(v.Type()).Elem()
	switch v.Kind() {
	case reflect.Slice:
		out.Set(list(v))
		for i := 0; i < out.Len() && v.Type().Elem().Kind() != reflect.Uint8; i++ { // bytes have no lists of their own
			out.Index(i).Set(deep(out.Index(i), list))
		}
	case reflect.Struct:
		for i := range v.NumField() {
			out.Field(i).Set(deep(v.Field(i), list))
		}
	default:
		out.Set(v)
	}
	return out
}

// spared is a copy of a value in which each list has room behind it that is marked.
func spared[T any](x T) T {
	return deep(reflect.ValueOf(x), func(v reflect.Value) reflect.Value {
		out := reflect.MakeSlice(v.Type(), v.Len()+3, v.Len()+3)
		reflect.Copy(out, v)
		for i := v.Len(); i < out.Len(); i++ {
			out.Index(i).Set(mark(v.Type().Elem()))
		}
		return out.Slice(0, v.Len())
	}).Interface().(T)
}

// photo is a copy of a value in which each list is as long as it has room: what must not change.
func photo(x any) any {
	return deep(reflect.ValueOf(x), func(v reflect.Value) reflect.Value {
		out := reflect.MakeSlice(v.Type(), v.Cap(), v.Cap())
		reflect.Copy(out, v.Slice(0, v.Cap()))
		return out
	}).Interface()
}

// span is the memory of a list, its room too.
type span struct{ from, to uintptr }

// apart tells whether no two lists of all that is handed in share memory.
func apart(l ...any) bool {
	var all []span
	for _, x := range l {
		deep(reflect.ValueOf(x), func(v reflect.Value) reflect.Value {
			if v.Cap() > 0 {
				all = append(all, span{v.Pointer(), v.Pointer() + uintptr(v.Cap())*v.Type().Elem().Size()})
			}
			return reflect.AppendSlice(reflect.Zero(v.Type()), v)
		})
	}
	slices.SortFunc(all, func(a, b span) int { return int(int64(a.from) - int64(b.from)) })
	for i := range all {
		if i > 0 && all[i-1].to > all[i].from {
			return false
		}
	}
	return true
}

// spoil changes each byte that a value's lists have, and their elements.
func spoil(x any) {
	var walk func(reflect.Value)
	walk = func(v reflect.Value) {
		switch v.Kind() {
		case reflect.Slice:
			for i := range v.Len() {
				walk(v.Index(i))
				if e := v.Index(i); e.Kind() == reflect.Uint8 {
					e.SetUint(e.Uint() ^ 255)
				} else {
					e.SetZero()
				}
			}
		case reflect.Struct:
			for i := range v.NumField() {
				walk(v.Field(i))
			}
		}
	}
	walk(reflect.ValueOf(x))
}

func TestApart(t *testing.T) { // that the tests below see what is shared
	f := spared(given(t)["waits"])
	l := spared(three())
	if !apart(f, spared(f), l, spared(l)) {
		t.Error("copies share memory")
	}
	if apart(f, f.Disk.Data[5:6]) || apart(f, f.Disk.Wait[0].Data) || apart(f, f.Dir.Files[1].Extents) || apart(l, l[1][3:4]) {
		t.Error("what is shared is not seen")
	}
	if n, m := len(f.Disk.Data), len(f.Disk.Wait); f.Disk.Data[:n+1][n] != 201 || f.Disk.Wait[:m+1][m].N != -77 {
		t.Error("the room behind a list is not marked")
	}
}

// given are files that are handed in: such as hold a log, and such as do not.
func given(t *testing.T) map[string]api.Fs {
	t.Helper()
	out := map[string]api.Fs{
		"a log":     holding(t, file(6, log(), blank(4))),
		"no room":   holding(t, file(6, log())),
		"torn":      holding(t, file(6, log(), [][]byte{begun(6, 1, 40, 1)}, blank(3))),
		"no salt":   holding(t, file(6, log(), [][]byte{begun(6, 1, greatest, 1)}, blank(3))),
		"no head":   holding(t, file(0, log())),
		"one block": holding(t, file(6)),
		"no files":  bare(t, 64),
		"no gen":    bare(t, 64, begun(greatest)),
	}
	f := holding(t, file(6, blank(9)))
	for i, b := range log() {
		f = ok[api.Fs](t)(fs.Put(f, "log", 1+i, b))
	}
	out["waits"] = ok[api.Fs](t)(fs.Create(f, "more", 1))
	for name, f := range bad(t) {
		out["bad: "+name] = f
	}
	return out
}

// answers are all that the calls answer of files and a record.
func answers(f api.Fs, record []byte) []any {
	w, l, e := wal.Open(f, "log")
	a, aw, ae := wal.Append(f, w, record)
	n, nw, ne := wal.New(f, "new", 3)
	r, re := wal.Room(f, w)
	b, bw, be := wal.Append(f, api.Wal{Name: "log"}, record)
	c, cw, ce := wal.New(f, "log", 2)
	return []any{w, l, e, a, aw, ae, n, nw, ne, r, re, b, bw, be, c, cw, ce}
}

func TestMemory(t *testing.T) { // P9.4: what is handed in is only read, what is answered is new
	for name, f := range given(t) {
		for _, size := range []int{0, 5, 108, 300, api.MaxRecord + 1} {
			f, r := spared(f), spared(some(size, 1))
			was := []any{photo(f), photo(r)}
			one, two := answers(f, r), answers(f, r)
			if !reflect.DeepEqual([]any{photo(f), photo(r)}, was) {
				t.Errorf("%s, %d bytes: what is handed in is changed", name, size)
			}
			if !apart(append(append(one, two...), f, r)...) {
				t.Errorf("%s, %d bytes: memory is shared", name, size)
			}
			if !reflect.DeepEqual(one, two) {
				t.Errorf("%s, %d bytes: two answers", name, size)
			}
		}
	}
}

func TestNothingIsKept(t *testing.T) { // P9.4, R2: what is handed in may change behind the call
	for name, f := range given(t) {
		f, r := spared(f), spared(some(108, 1))
		got := answers(f, r)
		photos := make([]any, len(got))
		for i, x := range got {
			photos[i] = photo(x)
		}
		spoil(f)
		spoil(r)
		for i, x := range got {
			if !reflect.DeepEqual(photo(x), photos[i]) {
				t.Errorf("%s: the answer %d changes with what was handed in", name, i)
			}
		}
	}
}

func TestSpareRoomIsNotRead(t *testing.T) { // P9.4: what stands behind a list counts for nothing
	for name, f := range given(t) {
		plain, roomy := answers(f, some(108, 1)), answers(spared(f), spared(some(108, 1)))
		for i := range plain {
			if x, is := plain[i].(api.Fs); is && !sameFs(x, roomy[i].(api.Fs)) {
				t.Errorf("%s: other files, answer %d", name, i)
			} else if !is && !reflect.DeepEqual(plain[i], roomy[i]) {
				t.Errorf("%s: another answer, %d", name, i)
			}
		}
	}
}

func TestAnswersAreOfArgumentsAlone(t *testing.T) { // R2: nothing is kept from call to call
	all := given(t)
	first := map[string][]any{}
	for name, f := range all {
		first[name] = answers(f, some(108, 1))
	}
	for name, f := range all {
		if !reflect.DeepEqual(answers(f, some(108, 1)), first[name]) {
			t.Errorf("%s, once more: another answer", name)
		}
	}
}
