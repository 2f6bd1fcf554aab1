package manifest_test

import (
	"bytes"
	"encoding/binary"
	"fmt"
	"math"
	"math/rand"
	"reflect"
	"slices"
	"strings"
	"testing"

	"millhand/api"
	"millhand/fs"
	"millhand/version"
)

const (
	maxSeq  = 1 << 40
	maxActs = 65536 // chapter 2's MaxActs
)

func table(name, low, high string) api.Meta {
	return api.Meta{Name: name, Size: 9, Many: 2, Low: low, High: high}
}
func tables(l ...api.Meta) []api.Meta { return l }
func text(many int) string            { return strings.Repeat("t", many) }

// of is a version of the first ones of its levels.
func of(levels ...[]api.Meta) api.Version {
	return api.Version{Levels: append(levels, make([][]api.Meta, 4-len(levels))...), Next: 7, Seq: 5, Log: "log"}
}

// but is a version, changed.
func but(v api.Version, change func(v *api.Version)) api.Version {
	change(&v)
	return v
}

// row is so many tables, apart, rising by their keys and their names.
func row(many int) (l []api.Meta) {
	for i := range many {
		n := fmt.Sprint(1000 + i)
		l = append(l, table("r"+n, n, n+"x"))
	}
	return l
}

// longest is a version of the most bytes that one may have.
func longest() api.Version {
	v := of()
	for i := range 32 {
		end := fmt.Sprint(10 + i)
		m := api.Meta{Name: text(14) + end, Size: 16384, Many: 65536, Low: text(61) + end + "a", High: text(61) + end + "b"}
		v.Levels[3] = append(v.Levels[3], m)
	}
	v.Next, v.Seq, v.Log = maxSeq, maxSeq, text(16)
	return v
}

// hand is a version, and its bytes as they are by hand.
func hand() (api.Version, []byte) {
	v := of(tables(api.Meta{Name: "a", Size: 300, Many: 127, Low: "b", High: "d"}, api.Meta{Name: "cd", Size: 16384, Many: 128, Low: "a", High: "a"}), nil,
		tables(api.Meta{Name: "\x00", Size: 1, Many: 65536, Low: "\xff", High: "\xff\x80"}))
	v.Next, v.Seq = 128, 1<<40
	return v, []byte{
		2, 1, 97, 172, 2, 127, 1, 98, 1, 100, 2, 99, 100, 128, 128, 1, 128, 1, 1, 97, 1, 97,
		0,
		1, 1, 0, 1, 128, 128, 4, 1, 255, 2, 255, 128,
		0,
		128, 1, 128, 128, 128, 128, 128, 32, 3, 108, 111, 103,
	}
}

// good are versions that may be.
func good() map[string]api.Version {
	all := tables(table("\x00", "\x00", "\x00"), table("\xff", "\x00\x00", "\x7f"), table("é", "\x80", "\xff"), table("0", "\xff\x00", "\xff\xff"))
	byHand, _ := hand()
	out := map[string]api.Version{
		"none":             of(),
		"none, not nil":    of(tables(), tables(), tables(), tables()),
		"by hand":          byHand,
		"the example":      of(tables(table("a", "b", "d"), table("b", "c", "f"))),
		"level 0 meets":    of(tables(table("a", "x", "z"), table("c", "a", "y"), table("b", "a", "y"))),
		"all bytes":        of(nil, all),
		"in all levels":    of(tables(table("k", "a", "b")), row(2), tables(table("x", "a", "g"), table("w", "h", "h")), tables(table("z", "b", "b"))),
		"32 in level 0":    of(row(32)),
		"32 in all":        of(row(5), row(10)[5:], row(26)[10:], row(32)[26:]),
		"the longest":      longest(),
		"the least":        {Levels: make([][]api.Meta, 4), Next: 1, Log: "\x00"},
		"a log as a file":  but(of(), func(v *api.Version) { v.Log = "current" }),
		"tables as a file": of(tables(table("current", "a", "b"), table("next", "a", "b"))),
	}
	for _, n := range []int{1, 127, 128, 129, 16383, 16384, 1<<21 - 1, 1 << 21, 1<<28 - 1, 1 << 28, 1<<35 - 1, 1 << 35, maxSeq - 1, maxSeq} {
		out[fmt.Sprintf("Next %d", n)] = but(of(row(1)), func(v *api.Version) { v.Next = n })
		out[fmt.Sprintf("Seq %d", n)] = but(of(row(1)), func(v *api.Version) { v.Seq = n })
		m := table("m", "m", "n")
		m.Size, m.Many = min(n, 16384), min(n, 65536)
		out[fmt.Sprintf("Size and Many %d", n)] = of(nil, nil, tables(m))
	}
	return out
}

// badTables are such as may not be.
func badTables() map[string]api.Meta {
	out := map[string]api.Meta{"zero": {}}
	add := func(name string, change func(m *api.Meta)) {
		m := table("bad", "n", "o")
		change(&m)
		out[name] = m
	}
	for _, n := range []int{0, 17, 1 << 14} {
		add(fmt.Sprintf("a name of %d", n), func(m *api.Meta) { m.Name = text(n) })
	}
	for _, n := range []int{0, -1, math.MinInt, 16385, 1 << 32, math.MaxInt} {
		add(fmt.Sprintf("a size of %d", n), func(m *api.Meta) { m.Size = n })
	}
	for _, n := range []int{0, -1, math.MinInt, 65537, 1 << 32, math.MaxInt} {
		add(fmt.Sprintf("entries: %d", n), func(m *api.Meta) { m.Many = n })
	}
	add("no low key", func(m *api.Meta) { m.Low = "" })
	add("no keys", func(m *api.Meta) { m.Low, m.High = "", "" })
	add("a low key of 65", func(m *api.Meta) { m.Low = "a" + text(64) })
	add("a high key of 65", func(m *api.Meta) { m.High = "o" + text(64) })
	add("low above high", func(m *api.Meta) { m.Low, m.High = "o", "n" })
	return out
}

// bad are versions that have no more than 32 tables, and may not be.
func bad() map[string]api.Version {
	out := map[string]api.Version{
		"zero":               {},
		"three levels":       but(of(row(1)), func(v *api.Version) { v.Levels = v.Levels[:3] }),
		"five levels":        but(of(row(1)), func(v *api.Version) { v.Levels = append(v.Levels, nil) }),
		"a name twice":       of(tables(table("a", "b", "c"), table("a", "d", "e"))),
		"a name in two":      of(tables(table("a", "b", "c")), nil, tables(table("a", "b", "c"))),
		"the log's name":     of(nil, tables(table("log", "b", "c"))),
		"one key in two":     of(nil, tables(table("a", "b", "d"), table("b", "d", "e"))),
		"fall in level 3":    of(nil, nil, nil, tables(table("a", "d", "e"), table("b", "b", "c"))),
		"the last one meets": of(nil, nil, append(row(31), table("z", "1030w", "1031"))),
	}
	for _, n := range []int{0, -1, math.MinInt, maxSeq + 1, math.MaxInt} {
		out[fmt.Sprintf("Next %d", n)] = but(of(row(1)), func(v *api.Version) { v.Next = n })
	}
	for _, n := range []int{-1, math.MinInt, maxSeq + 1, math.MaxInt} {
		out[fmt.Sprintf("Seq %d", n)] = but(of(row(1)), func(v *api.Version) { v.Seq = n })
	}
	for _, n := range []int{0, 17, 1 << 14} {
		out[fmt.Sprintf("a log of %d", n)] = but(of(row(1)), func(v *api.Version) { v.Log = text(n) })
	}
	for name, m := range badTables() {
		for i := range 4 {
			level := fmt.Sprintf(" in level %d", i)
			out[name+level] = but(of(), func(v *api.Version) { v.Levels[i] = tables(m) })
			out[name+", last"+level] = but(of(), func(v *api.Version) { v.Levels[i] = tables(table("a", "b", "c"), m) })
		}
	}
	return out
}

// tooMany are versions of more than 32 tables.
func tooMany() map[string]api.Version {
	return map[string]api.Version{
		"33 in level 0":      of(row(33)),
		"33 in level 3":      of(nil, nil, nil, row(33)),
		"33 in two":          of(row(33)[:32], row(33)[32:]),
		"33 in all":          of(row(11), row(22)[11:], row(32)[22:], row(33)[32:]),
		"33 that may not be": of(make([]api.Meta, 33)),
		"127":                of(nil, row(127)),
		"5,000":              of(nil, nil, make([]api.Meta, 5000)),
	}
}

// refused visits all versions that may not be, with their errors.
func refused(visit func(name string, v api.Version, want api.Errno)) {
	for name, v := range bad() {
		visit(name, v, api.ErrBad)
	}
	for name, v := range tooMany() {
		visit(name, v, api.ErrMany)
	}
}

// plain is a version's bytes as the chapter tells them, of any one without numbers below 0; each number by a function, if one is told.
func plain(v api.Version, by ...func([]byte, uint64) []byte) []byte {
	by = append(by, binary.AppendUvarint)
	var b []byte
	number := func(n int) { b = by[0](b, uint64(n)) }
	text := func(s string) {
		number(len(s))
		b = append(b, s...)
	}
	for _, l := range v.Levels {
		number(len(l))
		for _, m := range l {
			text(m.Name)
			number(m.Size)
			number(m.Many)
			text(m.Low)
			text(m.High)
		}
	}
	number(v.Next)
	number(v.Seq)
	text(v.Log)
	return b
}

// plainRead reads whatever has the form of a version's bytes, and tells whether it is a version's: whether it may be, and makes the same bytes again.
func plainRead(b []byte) (v api.Version, is bool) {
	rest, good := b, true
	number := func() uint64 {
		n, size := binary.Uvarint(rest)
		good = good && size > 0
		rest = rest[max(0, size):]
		return n
	}
	text := func() string {
		n := min(number(), uint64(len(rest)))
		s := string(rest[:n])
		rest = rest[n:]
		return s
	}
	v.Levels = make([][]api.Meta, 4)
	for i := range v.Levels {
		for n := number(); n > 0 && good; n-- {
			m := api.Meta{Name: text(), Size: int(number()), Many: int(number()), Low: text(), High: text()}
			v.Levels[i] = append(v.Levels[i], m)
		}
	}
	v.Next, v.Seq, v.Log = int(number()), int(number()), text()
	return v, good && version.Check(v) == api.OK && bytes.Equal(plain(v), b)
}

// anyVersion is a version that may be, of anything.
func anyVersion(r *rand.Rand) api.Version {
	v := api.Version{Levels: make([][]api.Meta, 4), Next: 1 + int(r.Int63n(1<<r.Intn(41))), Seq: int(r.Int63n(1 << r.Intn(41))), Log: "log"[:1+r.Intn(3)]}
	keys := 1 + r.Intn(60)
	for i := range r.Intn(33) {
		low := fmt.Sprintf("%03d%s", 3*i, text(r.Intn(keys)))
		m := api.Meta{Name: fmt.Sprint(i, text(r.Intn(14))), Size: 1 + r.Intn(1<<r.Intn(15)), Many: 1 + r.Intn(1<<r.Intn(17)), Low: low, High: low + text(r.Intn(2))}
		level := r.Intn(4)
		v.Levels[level] = append(v.Levels[level], m)
	}
	return v
}

// stored are bytes as the blocks of a file that holds them.
func stored(b []byte) [][]byte {
	whole := append(slices.Clone(b), make([]byte, 128)...)
	return slices.Collect(slices.Chunk(whole[:max(128, (len(b)+127)/128*128)], 128))
}

// textOf is a text's bytes.
func textOf(b []byte) []byte { return append(binary.AppendUvarint(nil, uint64(len(b))), b...) }

// held are the blocks of a file that holds a version.
func held(v api.Version) [][]byte { return stored(textOf(plain(v))) }

// some are so many bytes, none of them 0, that differ by a seed.
func some(many, seed int) []byte {
	b := make([]byte, many)
	for i := range b {
		b[i] = byte(1 + (i*7+seed*13)%255)
	}
	return b
}

// full is a block of one byte, again and again.
func full(x byte) []byte { return bytes.Repeat([]byte{x}, api.Block) }

// ok is what was answered without an error.
func ok[T any](t *testing.T) func(T, api.Errno) T {
	return func(x T, e api.Errno) T {
		t.Helper()
		if e != api.OK {
			t.Fatalf("the error %d", e)
		}
		return x
	}
}

// bare is files on a disk of so many blocks, none of noughts from First on, without any files.
func bare(t *testing.T, blocks int) api.Fs {
	t.Helper()
	f := ok[api.Fs](t)(fs.Format(blocks))
	for i := api.First * api.Block; i < len(f.Disk.Data); i++ {
		f.Disk.Data[i] = byte(200 + i%50)
	}
	return f
}

// committed is files behind a commit, on whose disk nothing was done.
func committed(t *testing.T, f api.Fs) api.Fs {
	t.Helper()
	return ok[api.Fs](t)(fs.Clear(ok[api.Fs](t)(fs.Commit(f))))
}

// put is files with one more, into which these blocks are put.
func put(t *testing.T, f api.Fs, name string, l [][]byte) api.Fs {
	t.Helper()
	f = ok[api.Fs](t)(fs.Create(f, name, len(l)))
	for i, b := range l {
		f = ok[api.Fs](t)(fs.Put(f, name, i, b))
	}
	return f
}

// beside is files with three, apart, with a free block behind the first one, two behind the second one, and more behind the last one; nothing waits.
func beside(t *testing.T, blocks int) api.Fs {
	t.Helper()
	f := bare(t, blocks)
	for i, name := range []string{"m", "x", "a", "y", "z"} {
		f = put(t, f, name, slices.Repeat([][]byte{full(byte(i + 1))}, []int{2, 1, 3, 2, 1}[i]))
	}
	f = committed(t, f)
	f = ok[api.Fs](t)(fs.Delete(f, "x"))
	return committed(t, ok[api.Fs](t)(fs.Delete(f, "y")))
}

// blocksOf are a file's blocks.
func blocksOf(t *testing.T, f api.Fs, name string) (l [][]byte) {
	t.Helper()
	for i := range ok[int](t)(fs.Size(f, name)) {
		l = append(l, ok[[]byte](t)(fs.Get(f, name, i)))
	}
	return l
}

func sameBlocks(a, b [][]byte) bool { return slices.EqualFunc(a, b, bytes.Equal) }

// same tells whether two versions are the same, field by field.
func same(a, b api.Version) bool {
	return a.Next == b.Next && a.Seq == b.Seq && a.Log == b.Log && slices.EqualFunc(a.Levels, b.Levels, slices.Equal[[]api.Meta])
}

func sameDir(a, b api.Dir) bool {
	return slices.EqualFunc(a.Files, b.Files, func(f, g api.File) bool {
		return f.Name == g.Name && slices.Equal(f.Extents, g.Extents)
	})
}

// sameFs compares files in all their parts.
func sameFs(a, b api.Fs) bool {
	put := func(p, q api.Put) bool { return p.N == q.N && bytes.Equal(p.Data, q.Data) }
	act := func(x, y api.Act) bool { return x.Sync == y.Sync && put(x.Put, y.Put) }
	return bytes.Equal(a.Disk.Data, b.Disk.Data) && slices.EqualFunc(a.Disk.Wait, b.Disk.Wait, put) && slices.EqualFunc(a.Disk.Done, b.Disk.Done, act) &&
		a.Gen == b.Gen && sameDir(a.Dir, b.Dir) && sameDir(a.Kept, b.Kept)
}

// wantAlone looks whether an error stands alone, beside a zero value.
func wantAlone(t *testing.T, name string, e, want api.Errno, x any) {
	t.Helper()
	if e != want || !reflect.ValueOf(x).IsZero() {
		t.Errorf("%s: error %d, not %d alone", name, e, want)
	}
}

// busy is files on whose disk so many acts were done already, syncs, and so many writes wait.
func busy(f api.Fs, acts, writes int) api.Fs {
	f.Disk.Done = slices.Repeat([]api.Act{{Sync: true}}, acts)
	f.Disk.Wait = slices.Repeat([]api.Put{{N: api.First + 20, Data: full(1)}}, writes)
	return f
}

// badFs are files that may not be.
func badFs(t *testing.T) map[string]api.Fs {
	t.Helper()
	good := committed(t, put(t, beside(t, 70), "current", held(of(row(3)))))
	otherGen, otherDir, otherKept, noDisk, below := good, good, good, good, good
	otherGen.Gen++
	otherDir.Dir = api.Dir{Files: append(slices.Clone(good.Dir.Files), good.Dir.Files[0])}
	otherKept.Kept = api.Dir{Files: good.Kept.Files[1:]}
	noDisk.Disk.Data = good.Disk.Data[1:]
	below.Disk.Wait = []api.Put{{N: api.First - 1, Data: full(1)}}
	return map[string]api.Fs{"zero": {}, "another gen": otherGen, "another directory": otherDir, "another committed one": otherKept, "no disk": noDisk, "a write below First": below}
}
