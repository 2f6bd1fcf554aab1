package batch

import (
	"millhand/api"
	"millhand/code"
)

const (
	markPut  = 0 // ahead of an operation's texts
	markDead = 1
)

func bytesOf(seq int, l []api.Op) []byte {
	b := append(code.Small(uint64(seq)), code.Small(uint64(len(l)))...)
	for _, op := range l {
		b = appendOp(b, op)
	}
	return b
}

func appendOp(b []byte, op api.Op) []byte {
	if op.Dead {
		return append(append(b, markDead), code.Text(op.Key)...)
	}
	b = append(append(b, markPut), code.Text(op.Key)...)
	return append(b, code.Text(op.Value)...)
}

// opened is the number and the batch of which b is the bytes; false, if b is none's.
func opened(b []byte) (int, []api.Op, bool) {
	seq, b, ok := cutNumber(b, maxSeq)
	if !ok {
		return 0, nil, false
	}
	many, b, ok := cutNumber(b, api.MaxBatch)
	if !ok {
		return 0, nil, false
	}
	l, ok := operations(b, many)
	return seq, l, ok
}

// cutNumber is the number, from 1 to most, with whose bytes b begins, and what stands behind them. A greater one is refused ahead of making an int of it, into which it might not go.
func cutNumber(b []byte, most uint64) (int, []byte, bool) {
	n, size, e := code.Read(b)
	if e != api.OK || n < 1 || n > most {
		return 0, nil, false
	}
	return int(n), b[size:], true
}

// operations are the many operations of which b is the bytes; false, if b is not just those of so many.
func operations(b []byte, many int) ([]api.Op, bool) {
	next := func() (api.Op, bool) {
		if len(b) == 0 || b[0] > markDead {
			return api.Op{}, false
		}
		op := api.Op{Dead: b[0] == markDead}
		var e api.Errno
		op.Key, b, e = code.Cut(b[1:])
		if e == api.OK && !op.Dead {
			op.Value, b, e = code.Cut(b)
		}
		return op, e == api.OK && mayBe(op)
	}
	var l []api.Op
	for range many {
		op, ok := next()
		if !ok {
			return nil, false
		}
		l = append(l, op)
	}
	return l, len(b) == 0
}
