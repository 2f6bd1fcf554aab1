package pick

import (
	"slices"

	"millhand/api"
)

// excess is, level by level, how many tables there are more than a level holds.
func excess(v api.Version) (over [api.Levels]int) {
	for level, l := range v.Levels {
		over[level] = max(0, len(l)-holds(level, len(l)))
	}
	return over
}

// holds is how many tables a level holds, if so many are there.
func holds(level, there int) int {
	switch level {
	case 0:
		return 3
	case api.Levels - 1:
		return there
	}
	return 4 << level
}

func tooFull(over [api.Levels]int) bool { return over != [api.Levels]int{} }

// fullest is the level that is too full by the most, of several the least one.
func fullest(over [api.Levels]int) int {
	level := 0
	for i, n := range over {
		if n > over[level] {
			level = i
		}
	}
	return level
}

// uppers is the tables of a full level that are compacted next, in memory of their own. Those of level 0 may meet, and an older one that stayed would stand ahead of newer ones that went; those of other levels are apart, so that one can go alone.
func uppers(l []api.Meta, level int) []api.Meta {
	if level > 0 {
		l = l[:1:1]
	}
	return slices.Clone(l)
}

// span is the least and the greatest key of tables, one at least.
func span(l []api.Meta) (low, high string) {
	low, high = l[0].Low, l[0].High
	for _, m := range l[1:] {
		low, high = min(low, m.Low), max(high, m.High)
	}
	return low, high
}
