package block

import "millhand/api"

// mayBe tells whether all entries may be, and stand in order.
func mayBe(l []api.Entry) bool {
	var ahead api.Entry
	for _, x := range l {
		if !entryMayBe(x) || !stands(ahead, x) {
			return false
		}
		ahead = x
	}
	return true
}

func entryMayBe(x api.Entry) bool {
	if len(x.Key) < 1 || len(x.Key) > api.MaxKey || len(x.Value) > api.MaxValue {
		return false
	}
	return x.Seq >= 1 && x.Seq <= api.MaxSeq && (!x.Dead || x.Value == "")
}

// stands tells whether x may stand right behind ahead. Behind a zero entry each one may that has a key: so the first one needs no case of its own.
func stands(ahead, x api.Entry) bool {
	return ahead.Key < x.Key || ahead.Key == x.Key && ahead.Seq > x.Seq
}
