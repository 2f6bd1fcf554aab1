package block

import (
	"millhand/api"
	"millhand/code"
)

func bytesOf(l []api.Entry) []byte {
	b := code.Small(uint64(len(l)))
	ahead := ""
	for _, x := range l {
		b = appendEntry(b, ahead, x)
		ahead = x.Key
	}
	return b
}

func appendEntry(b []byte, ahead string, x api.Entry) []byte {
	common := Common(ahead, x.Key)
	b = append(b, code.Small(uint64(common))...)
	b = append(b, code.Text(x.Key[common:])...)
	b = append(b, code.Small(uint64(x.Seq))...)
	b = append(b, byteOf(x.Dead))
	if x.Dead {
		return b
	}
	return append(b, code.Text(x.Value)...)
}

func byteOf(is bool) byte {
	if is {
		return 1
	}
	return 0
}

// opened is the entries of which b is the block; false, if b is none's.
func opened(b []byte) ([]api.Entry, bool) {
	many, b, ok := cutNumber(b, api.MaxTabled)
	if !ok || many < 1 {
		return nil, false
	}
	var l []api.Entry
	var ahead api.Entry
	for range many {
		ahead, b, ok = cutEntry(b, ahead)
		if !ok {
			return nil, false
		}
		l = append(l, ahead)
	}
	return l, len(b) == 0
}

// cutEntry is the entry with whose bytes b begins, and what stands behind them; false, if there is none that may stand behind the one ahead.
func cutEntry(b []byte, ahead api.Entry) (api.Entry, []byte, bool) {
	key, b, ok := cutKey(b, ahead.Key)
	if !ok {
		return api.Entry{}, nil, false
	}
	seq, b, ok := cutNumber(b, api.MaxSeq)
	if !ok {
		return api.Entry{}, nil, false
	}
	dead, value, b, ok := cutEnd(b)
	x := api.Entry{Key: key, Seq: seq, Dead: dead, Value: value}
	if !ok || !entryMayBe(x) || !stands(ahead, x) {
		return api.Entry{}, nil, false
	}
	return x, b, true
}

// cutKey puts a key together of the one ahead and a rest. The rest must not begin as the one ahead goes on, else one key could be written in two ways.
func cutKey(b []byte, ahead string) (string, []byte, bool) {
	common, b, ok := cutNumber(b, uint64(len(ahead)))
	if !ok {
		return "", nil, false
	}
	rest, b, ok := cutText(b)
	if !ok {
		return "", nil, false
	}
	key := ahead[:common] + rest
	return key, b, Common(ahead, key) == common
}

// cutEnd is whether an entry is dead, its value, and what stands behind them. A byte that is no bool's is refused.
func cutEnd(b []byte) (bool, string, []byte, bool) {
	if len(b) == 0 {
		return false, "", nil, false
	}
	dead := b[0] == byteOf(true)
	if b[0] != byteOf(dead) {
		return false, "", nil, false
	}
	if dead {
		return true, "", b[1:], true
	}
	value, rest, ok := cutText(b[1:])
	return false, value, rest, ok
}

// cutText is the text with whose bytes b begins, and what stands behind it. code.Cut would copy all of that at each text of a block.
func cutText(b []byte) (string, []byte, bool) {
	size, b, ok := cutNumber(b, uint64(len(b)))
	if !ok || size > len(b) {
		return "", nil, false
	}
	return string(b[:size]), b[size:], true
}

// cutNumber is the number, at most most, with whose bytes b begins, and what stands behind them. A greater one is refused ahead of making an int of it, into which it might not go.
func cutNumber(b []byte, most uint64) (int, []byte, bool) {
	n, size, e := code.Read(b)
	if e != api.OK || n > most {
		return 0, nil, false
	}
	return int(n), b[size:], true
}
