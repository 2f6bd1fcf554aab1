package dev

import (
	"bytes"

	"millhand/api"
)

// maxActs is the chapter's MaxActs, of the writes that wait, and of the acts that were done; api's constant of that name is another limit, of a script.
const maxActs = 1 << 16

// count is how many whole blocks a disk's data have.
func count(d api.Disk) int { return len(d.Data) / api.Block }

func mayBe(d api.Disk) bool {
	if len(d.Data)%api.Block != 0 || count(d) < 1 || count(d) > api.MaxBlocks {
		return false
	}
	if len(d.Wait) > maxActs || len(d.Done) > maxActs {
		return false
	}
	for _, p := range d.Wait {
		if checkPut(d, p) != api.OK {
			return false
		}
	}
	for _, a := range d.Done {
		if checkAct(d, a) != api.OK {
			return false
		}
	}
	return true
}

// checkPut tells why a write may not be on a disk.
func checkPut(d api.Disk, p api.Put) api.Errno {
	if p.N < 0 || p.N >= count(d) {
		return api.ErrArg
	}
	if len(p.Data) != api.Block {
		return api.ErrText
	}
	return api.OK
}

// checkAct tells why an act may not be on a disk.
func checkAct(d api.Disk, a api.Act) api.Errno {
	if !a.Sync {
		return checkPut(d, a.Put)
	}
	if a.Put.N != 0 || len(a.Put.Data) != 0 {
		return api.ErrBad
	}
	return api.OK
}

// act does an act that may be to a disk that nobody else has; with an error it is left as it was.
func act(d *api.Disk, a api.Act) api.Errno {
	if len(d.Done) >= maxActs || !a.Sync && len(d.Wait) >= maxActs {
		return api.ErrFull
	}
	if a.Sync {
		left(d.Wait).lay(d.Data)
		d.Wait = nil
	} else {
		d.Wait = append(d.Wait, copyPut(a.Put))
	}
	d.Done = append(d.Done, copyAct(a))
	return api.OK
}

func samePut(a, b api.Put) bool { return a.N == b.N && bytes.Equal(a.Data, b.Data) }

func copyPut(p api.Put) api.Put { return api.Put{N: p.N, Data: bytes.Clone(p.Data)} }

func copyAct(a api.Act) api.Act { return api.Act{Sync: a.Sync, Put: copyPut(a.Put)} }

func copyPuts(l []api.Put) []api.Put {
	c := make([]api.Put, len(l))
	for i, p := range l {
		c[i] = copyPut(p)
	}
	return c
}

func copyActs(l []api.Act) []api.Act {
	c := make([]api.Act, len(l))
	for i, a := range l {
		c[i] = copyAct(a)
	}
	return c
}

func copyDisk(d api.Disk) api.Disk {
	return api.Disk{Data: bytes.Clone(d.Data), Wait: copyPuts(d.Wait), Done: copyActs(d.Done)}
}
