package compact

import (
	"bytes"
	"slices"

	"millhand/api"
)

// Where no table is made, what is answered is what was handed in, in memory of its own: no call of a layer below makes it then.

func copyFs(f api.Fs) api.Fs {
	f.Disk = api.Disk{Data: bytes.Clone(f.Disk.Data), Wait: each(f.Disk.Wait, copyPut), Done: each(f.Disk.Done, copyAct)}
	f.Dir.Files, f.Kept.Files = each(f.Dir.Files, copyFile), each(f.Kept.Files, copyFile)
	return f
}

func copyVersion(v api.Version) api.Version {
	v.Levels = each(v.Levels, slices.Clone[[]api.Meta])
	return v
}

// each is a list of what a function makes of each element.
func each[T any](l []T, of func(T) T) []T {
	out := make([]T, len(l))
	for i, x := range l {
		out[i] = of(x)
	}
	return out
}

func copyPut(p api.Put) api.Put { return api.Put{N: p.N, Data: bytes.Clone(p.Data)} }

func copyAct(a api.Act) api.Act { return api.Act{Sync: a.Sync, Put: copyPut(a.Put)} }

func copyFile(x api.File) api.File {
	return api.File{Name: x.Name, Extents: slices.Clone(x.Extents)}
}
