package table

import (
	"millhand/api"
	"millhand/block"
	"millhand/code"
)

const mostOfBlock = 1024 // bytes that a table lets a block have

// fitting is as many of the entries, from the first one on, as have room in a block together. An entry's bytes hang on the one ahead alone, so that a block which grows need not be written anew for each of them.
func fitting(l []api.Entry) []api.Entry {
	fits := l[:1]
	size := entrySize("", l[0])
	for len(fits) < len(l) {
		grown := l[:len(fits)+1]
		size += entrySize(l[len(fits)-1].Key, l[len(fits)])
		if smallSize(len(grown))+size > mostOfBlock {
			break
		}
		fits = grown
	}
	return fits
}

// entrySize is how many bytes an entry has in a block, behind one of the key ahead.
func entrySize(ahead string, x api.Entry) int {
	common := block.Common(ahead, x.Key)
	size := smallSize(common) + textSize(x.Key[common:]) + smallSize(x.Seq) + 1
	if x.Dead {
		return size
	}
	return size + textSize(x.Value)
}

func textSize(s string) int {
	return smallSize(len(s)) + len(s)
}

func smallSize(n int) int {
	return len(code.Small(uint64(n)))
}
