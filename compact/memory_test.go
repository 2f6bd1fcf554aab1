package compact_test

import (
	"reflect"
	"slices"
	"testing"

	"millhand/api"
	"millhand/compact"
)

// mark is a value of a type that nothing else in the tests has.
func mark(kind reflect.Type) reflect.Value {
	v := reflect.New(kind).Elem()
	switch kind.Kind() {
	case reflect.Int:
		v.SetInt(-77)
	case reflect.Uint8:
		v.SetUint(201)
	case reflect.String:
		v.SetString("mark")
	case reflect.Struct:
		for i := range v.NumField() {
			v.Field(i).Set(mark(v.Field(i).Type()))
		}
	}
	return v
}

// deep is a copy of a value with all of its lists, each of which is made anew by list.
func deep(v reflect.Value, list func(reflect.Value) reflect.Value) reflect.Value {
	out := reflect.New(v.Type()).Elem()
	switch v.Kind() {
	case reflect.Slice:
		out.Set(list(v))
		for i := 0; i < out.Len() && v.Type().Elem().Kind() != reflect.Uint8; i++ { // bytes have no lists of their own
			out.Index(i).Set(deep(out.Index(i), list))
		}
	case reflect.Struct:
		for i := range v.NumField() {
			out.Field(i).Set(deep(v.Field(i), list))
		}
	default:
		out.Set(v)
	}
	return out
}

// spared is a copy of a value in which each list has room behind it that is marked.
func spared[T any](x T) T {
	return deep(reflect.ValueOf(x), func(v reflect.Value) reflect.Value {
		out := reflect.MakeSlice(v.Type(), v.Len()+3, v.Len()+3)
		reflect.Copy(out, v)
		for i := v.Len(); i < out.Len(); i++ {
			out.Index(i).Set(mark(v.Type().Elem()))
		}
		return out.Slice(0, v.Len())
	}).Interface().(T)
}

// photo is a copy of a value in which each list is as long as it has room: what must not change.
func photo(x any) any {
	return deep(reflect.ValueOf(x), func(v reflect.Value) reflect.Value {
		out := reflect.MakeSlice(v.Type(), v.Cap(), v.Cap())
		reflect.Copy(out, v.Slice(0, v.Cap()))
		return out
	}).Interface()
}

// span is the memory of a list, its room too.
type span struct{ from, to uintptr }

// apartAll tells whether no two lists of all that is handed in share memory.
func apartAll(l ...any) bool {
	var all []span
	for _, x := range l {
		deep(reflect.ValueOf(x), func(v reflect.Value) reflect.Value {
			if v.Cap() > 0 {
				all = append(all, span{v.Pointer(), v.Pointer() + uintptr(v.Cap())*v.Type().Elem().Size()})
			}
			return reflect.AppendSlice(reflect.Zero(v.Type()), v)
		})
	}
	slices.SortFunc(all, func(a, b span) int { return int(int64(a.from) - int64(b.from)) })
	for i := range all {
		if i > 0 && all[i-1].to > all[i].from {
			return false
		}
	}
	return true
}

// spoil changes each byte that a value's lists have, and their elements.
func spoil(x any) {
	var walk func(reflect.Value)
	walk = func(v reflect.Value) {
		switch v.Kind() {
		case reflect.Slice:
			for i := range v.Len() {
				walk(v.Index(i))
				if e := v.Index(i); e.Kind() == reflect.Uint8 {
					e.SetUint(e.Uint() ^ 255)
				} else {
					e.SetZero()
				}
			}
		case reflect.Struct:
			for i := range v.NumField() {
				walk(v.Field(i))
			}
		}
	}
	walk(reflect.ValueOf(x))
}

// given is what is handed in.
type given struct {
	F    api.Fs
	V    api.Version
	M    api.Mem
	W    api.Work
	Old  int
	Next int
}

// manyGiven are arguments that the calls take, and such as they refuse.
func manyGiven(t *testing.T) map[string]given {
	t.Helper()
	h := small(t)
	waits := h.with(t, 0, "w3", e("b", 33, "now"))
	w := api.Work{Upper: h.v.Levels[0], Lower: h.v.Levels[1][:2]}
	some, two := mem(e("a", 40, "x"), gone("a", 39), e("b", 38, "y")), mem(runs(20, 20)...)
	out := map[string]given{
		"nothing":       {F: bare(t, 64), V: of(), Next: 1},
		"not nil":       {F: bare(t, 64), V: of(metas(), metas(), metas(), metas()), M: mem(row()...), W: api.Work{Upper: metas(), Lower: metas()}, Next: 1},
		"none of many":  {F: waits.f, V: waits.v, W: api.Work{Level: 1}, Next: 1},
		"some":          {F: h.f, V: h.v, M: some, W: w, Old: 13, Next: 90},
		"some wait":     {F: waits.f, V: waits.v, M: some, W: api.Work{Level: 1, Upper: h.v.Levels[1], Lower: h.v.Levels[2]}, Next: 90},
		"the last ones": {F: waits.f, V: waits.v, M: two, W: api.Work{Level: 2, Upper: h.v.Levels[2], Lower: h.v.Levels[3]}, Old: 99, Next: 90},
		"all is dead":   {F: h.f, V: h.v, M: mem(gone("a", 40)), W: api.Work{Upper: h.v.Levels[0][:0]}, Old: 99, Next: 90},
		"two tables":    {F: h.f, V: h.v, M: two, W: w, Next: 90},
		"no room":       {F: bare(t, 36), V: of(), M: two, W: api.Work{}, Next: 90},
		"no tables":     {F: h.f, V: h.v, M: mem(runs(40)...), W: api.Work{Upper: h.v.Levels[2]}, Next: 90},
		"no numbers":    {F: h.f, V: h.at(maxSeq).v, M: some, W: w, Old: -1, Next: 0},
		"too many":      {F: h.f, V: of(apart("r", 33)), M: mem(keyed(keys(513), 1, 0)...), W: w, Next: 90},
		"out of order":  {F: h.f, V: h.v, M: mem(e("b", 1, ""), e("a", 1, "")), W: api.Work{Upper: metas(h.v.Levels[0][0], h.v.Levels[0][0])}, Next: 90},
		"not there":     {F: h.f, V: of(apart("r", 3)), M: some, W: api.Work{Upper: apart("r", 3)}, Next: 90},
	}
	for name, f := range badFs(t) {
		out["files: "+name] = given{F: f, V: h.v, M: some, W: w, Next: 90}
	}
	return out
}

// answers are all that the calls answer.
func answers(g given) (out []any) {
	rows, e := compact.Cut(g.M.Entries)
	f, l, e2 := compact.Build(g.F, g.M.Entries, g.Next)
	h, v, e3 := compact.Flush(g.F, g.V, g.M, g.Old)
	i, w, e4 := compact.Compact(g.F, g.V, g.W, g.Old)
	out = append(out, rows, e, f, l, e2, h, v, e3, i, w, e4)
	for _, l := range append(slices.Clone(g.V.Levels), g.W.Upper, g.W.Lower) {
		read, e := compact.Rows(g.F, l)
		out = append(out, read, e)
	}
	return out
}

func TestApart(t *testing.T) { // that the tests below see what is shared
	g := spared(manyGiven(t)["some wait"])
	if !apartAll(g, spared(g)) {
		t.Error("copies share memory")
	}
	if apartAll(g, g.F.Disk.Data[5:6]) || apartAll(g, g.F.Disk.Wait[0].Data) || apartAll(g, g.F.Dir.Files[1].Extents) || apartAll(g, g.V.Levels[1][:0]) || apartAll(g, g.M.Entries[1:2]) {
		t.Error("what is shared is not seen")
	}
	if n, m := len(g.F.Disk.Data), len(g.V.Levels[1]); g.F.Disk.Data[:n+1][n] != 201 || g.V.Levels[1][:m+1][m].Size != -77 {
		t.Error("the room behind a list is not marked")
	}
}

func TestMemory(t *testing.T) { // P19.6: what is handed in is only read, what is answered is new; R2
	for name, g := range manyGiven(t) {
		mine := spared(g)
		was := photo(mine)
		one, two := answers(mine), answers(mine)
		if !reflect.DeepEqual(photo(mine), was) {
			t.Errorf("%s: what is handed in is changed", name)
		}
		if !apartAll(append(append(one, two...), mine)...) {
			t.Errorf("%s: memory is shared", name)
		}
		if !reflect.DeepEqual(one, two) {
			t.Errorf("%s: two answers", name)
		}
	}
}

func TestNothingIsKept(t *testing.T) { // P19.6, R2: what is handed in, and answered, may change behind the call
	for name, g := range manyGiven(t) {
		mine := spared(g)
		got := answers(mine)
		photos := make([]any, len(got))
		for i, x := range got {
			photos[i] = photo(x)
		}
		spoil(mine)
		for i, x := range got {
			if !reflect.DeepEqual(photo(x), photos[i]) {
				t.Errorf("%s: the answer %d changes with what was handed in", name, i)
			}
			spoil(x)
		}
		for i, x := range answers(spared(g)) {
			if !reflect.DeepEqual(photo(x), photos[i]) {
				t.Errorf("%s: the answer %d changes with what was answered", name, i)
			}
		}
	}
}

func TestSpareRoomIsNotRead(t *testing.T) { // P19.6: what stands behind a list counts for nothing
	for name, g := range manyGiven(t) {
		bare, roomy := answers(g), answers(spared(g))
		for i := range bare {
			same := reflect.DeepEqual(bare[i], roomy[i])
			switch x := bare[i].(type) {
			case api.Fs:
				same = sameFs(x, roomy[i].(api.Fs))
			case api.Version:
				same = sameVersion(x, roomy[i].(api.Version))
			}
			if !same {
				t.Errorf("%s: another answer, %d", name, i)
			}
		}
	}
}
