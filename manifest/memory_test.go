package manifest_test

import (
	"reflect"
	"slices"
	"testing"

	"millhand/api"
	"millhand/fs"
	"millhand/manifest"
)

// mark is a value of a type that nothing else in the tests has.
func mark(kind reflect.Type) reflect.Value {
	v := reflect.New(kind).Elem()
	switch kind.Kind() {
	case reflect.Int:
		v.SetInt(-77)
	case reflect.Uint8:
		v.SetUint(201)
	case reflect.String:
		v.SetString("mark")
	case reflect.Struct:
		for i := range v.NumField() {
			v.Field(i).Set(mark(v.Field(i).Type()))
		}
	}
	return v
}

// deep is a copy of a value with all of its lists, each of which is made anew by list.
func deep(v reflect.Value, list func(reflect.Value) reflect.Value) reflect.Value {
	out := reflect.New(v.Type()).Elem()
	switch v.Kind() {
	case reflect.Slice:
		out.Set(list(v))
		for i := 0; i < out.Len() && v.Type().Elem().Kind() != reflect.Uint8; i++ { // bytes have no lists of their own
			out.Index(i).Set(deep(out.Index(i), list))
		}
	case reflect.Struct:
		for i := range v.NumField() {
			out.Field(i).Set(deep(v.Field(i), list))
		}
	default:
		out.Set(v)
	}
	return out
}

// spared is a copy of a value in which each list has room behind it that is marked.
func spared[T any](x T) T {
	return deep(reflect.ValueOf(x), func(v reflect.Value) reflect.Value {
		out := reflect.MakeSlice(v.Type(), v.Len()+3, v.Len()+3)
		reflect.Copy(out, v)
		for i := v.Len(); i < out.Len(); i++ {
			out.Index(i).Set(mark(v.Type().Elem()))
		}
		return out.Slice(0, v.Len())
	}).Interface().(T)
}

// photo is a copy of a value in which each list is as long as it has room: what must not change.
func photo(x any) any {
	return deep(reflect.ValueOf(x), func(v reflect.Value) reflect.Value {
		out := reflect.MakeSlice(v.Type(), v.Cap(), v.Cap())
		reflect.Copy(out, v.Slice(0, v.Cap()))
		return out
	}).Interface()
}

// span is the memory of a list, its room too.
type span struct{ from, to uintptr }

// apart tells whether no two lists of all that is handed in share memory.
func apart(l ...any) bool {
	var all []span
	for _, x := range l {
		deep(reflect.ValueOf(x), func(v reflect.Value) reflect.Value {
			if v.Cap() > 0 {
				all = append(all, span{v.Pointer(), v.Pointer() + uintptr(v.Cap())*v.Type().Elem().Size()})
			}
			return reflect.AppendSlice(reflect.Zero(v.Type()), v)
		})
	}
	slices.SortFunc(all, func(a, b span) int { return int(int64(a.from) - int64(b.from)) })
	for i := range all {
		if i > 0 && all[i-1].to > all[i].from {
			return false
		}
	}
	return true
}

// spoil changes each byte that a value's lists have, and their elements.
func spoil(x any) {
	var walk func(reflect.Value)
	walk = func(v reflect.Value) {
		switch v.Kind() {
		case reflect.Slice:
			for i := range v.Len() {
				walk(v.Index(i))
				if e := v.Index(i); e.Kind() == reflect.Uint8 {
					e.SetUint(e.Uint() ^ 255)
				} else {
					e.SetZero()
				}
			}
		case reflect.Struct:
			for i := range v.NumField() {
				walk(v.Field(i))
			}
		}
	}
	walk(reflect.ValueOf(x))
}

func TestApart(t *testing.T) { // that the tests below see what is shared
	g := spared(manyGiven(t)["waits"])
	if !apart(g, spared(g)) {
		t.Error("copies share memory")
	}
	if apart(g, g.F.Disk.Data[5:6]) || apart(g, g.F.Disk.Wait[0].Data) || apart(g, g.F.Dir.Files[1].Extents) || apart(g, g.V.Levels[1][:0]) || apart(g, g.B[3:4]) {
		t.Error("what is shared is not seen")
	}
	if n, m := len(g.F.Disk.Data), len(g.V.Levels[1]); g.F.Disk.Data[:n+1][n] != 201 || g.V.Levels[1][:m+1][m].Size != -77 {
		t.Error("the room behind a list is not marked")
	}
}

// given is what is handed in.
type given struct {
	F api.Fs
	V api.Version
	B []byte
}

// manyGiven are arguments that the calls take, and such as they refuse.
func manyGiven(t *testing.T) map[string]given {
	t.Helper()
	saved := committed(t, ok[api.Fs](t)(manifest.Save(beside(t, 80), of(row(4), row(6)[4:]))))
	waits := ok[api.Fs](t)(fs.Put(ok[api.Fs](t)(manifest.Save(saved, of(nil, row(2)))), "a", 1, full(1)))
	out := map[string]given{
		"no files":     {bare(t, 64), of(), nil},
		"a version":    {saved, of(row(9)), plain(of(row(9)))},
		"waits":        {waits, of(nil, row(3)), plain(longest())},
		"no levels":    {saved, api.Version{}, make([]byte, 16385)},
		"too many":     {saved, of(row(33)), append(plain(of()), 0)},
		"no version":   {put(t, bare(t, 64), "current", [][]byte{full(2)}), of(row(9)), some(300, 1)},
		"next":         {put(t, bare(t, 64), "next", [][]byte{full(2)}), of(row(9)), some(300, 1)},
		"little room":  {bare(t, 35), of(row(9)), some(300, 1)},
		"not so many":  {bare(t, 35), of(), nil},
		"a busy disk":  {busy(bare(t, 64), maxActs-2, 0), of(row(9)), some(300, 1)},
		"all the rest": {beside(t, 80), longest(), some(3000, 1)},
	}
	for name, f := range badFs(t) {
		out["bad: "+name] = given{F: f, V: of(row(1)), B: plain(of(row(1)))}
	}
	return out
}

// answers are all that the calls answer.
func answers(g given) (out []any) {
	b, e := manifest.Write(g.V)
	v, e2 := manifest.Read(g.B)
	f, e3 := manifest.Save(g.F, g.V)
	w, e4 := manifest.Load(g.F)
	h, e5 := manifest.Store(g.F, "b", g.B)
	out = append(out, b, e, v, e2, f, e3, w, e4, h, e5)
	for _, n := range []int{0, 1, 128, 200, 384, -1} {
		c, e := manifest.Fetch(g.F, "a", n)
		out = append(out, c, e)
	}
	return out
}

func TestMemory(t *testing.T) { // P17.4: what is handed in is only read, what is answered is new; R2
	for name, g := range manyGiven(t) {
		mine := spared(g)
		was := photo(mine)
		one, two := answers(mine), answers(mine)
		if !reflect.DeepEqual(photo(mine), was) {
			t.Errorf("%s: what is handed in is changed", name)
		}
		if !apart(append(append(one, two...), mine)...) {
			t.Errorf("%s: memory is shared", name)
		}
		if !reflect.DeepEqual(one, two) {
			t.Errorf("%s: two answers", name)
		}
	}
}

func TestNothingIsKept(t *testing.T) { // P17.4, R2: what is handed in, and answered, may change behind the call
	for name, g := range manyGiven(t) {
		mine := spared(g)
		got := answers(mine)
		photos := make([]any, len(got))
		for i, x := range got {
			photos[i] = photo(x)
		}
		spoil(mine)
		for i, x := range got {
			if !reflect.DeepEqual(photo(x), photos[i]) {
				t.Errorf("%s: the answer %d changes with what was handed in", name, i)
			}
			spoil(x)
		}
		for i, x := range answers(spared(g)) {
			if !reflect.DeepEqual(photo(x), photos[i]) {
				t.Errorf("%s: the answer %d changes with what was answered", name, i)
			}
		}
	}
}

func TestSpareRoomIsNotRead(t *testing.T) { // P17.4: what stands behind a list counts for nothing
	for name, g := range manyGiven(t) {
		bare, roomy := answers(g), answers(spared(g))
		for i := range bare {
			if x, is := bare[i].(api.Fs); is && !sameFs(x, roomy[i].(api.Fs)) {
				t.Errorf("%s: other files, answer %d", name, i)
			} else if !is && !reflect.DeepEqual(bare[i], roomy[i]) {
				t.Errorf("%s: another answer, %d", name, i)
			}
		}
	}
}
