package version

import (
	"slices"

	"millhand/api"
)

// checked is a version, or Check's error of it.
func checked(v api.Version) (api.Version, api.Errno) {
	if e := Check(v); e != api.OK {
		return api.Version{}, e
	}
	return v, api.OK
}

// tooMany stops counting as soon as it knows: levels that are handed in may be any.
func tooMany(v api.Version) bool {
	many := 0
	for _, l := range v.Levels {
		many += len(l)
		if many > api.MaxMetas {
			return true
		}
	}
	return false
}

// mayBe tells all that must hold of a version but how many tables it has.
func mayBe(v api.Version) bool {
	if len(v.Levels) != api.Levels || !nameMayBe(v.Log) || v.Next < 1 || v.Next > api.MaxSeq || v.Seq < 0 || v.Seq > api.MaxSeq {
		return false
	}
	for i, l := range v.Levels {
		if !tablesMayBe(l) || i > 0 && !rises(l, behind) {
			return false
		}
	}
	return rises(names(v), func(name, ahead string) bool { return name != ahead })
}

func tablesMayBe(l []api.Meta) bool {
	return !slices.ContainsFunc(l, func(m api.Meta) bool { return !tableMayBe(m) })
}

func tableMayBe(m api.Meta) bool {
	if !nameMayBe(m.Name) || m.Size < 1 || m.Size > api.MaxTable || m.Many < 1 || m.Many > api.MaxEntries {
		return false
	}
	return keyMayBe(m.Low) && keyMayBe(m.High) && m.Low <= m.High
}

func nameMayBe(s string) bool { return len(s) >= 1 && len(s) <= api.MaxName }

func keyMayBe(s string) bool { return len(s) >= 1 && len(s) <= api.MaxKey }

// names is the names of all files, rising, so that one that is there twice stands behind itself.
func names(v api.Version) []string {
	out := []string{v.Log}
	for _, l := range v.Levels {
		for _, m := range l {
			out = append(out, m.Name)
		}
	}
	slices.Sort(out)
	return out
}
