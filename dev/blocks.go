package dev

import "millhand/api"

// blocks are blocks as they are now, by their numbers: those that writes left. They lie over what lasts; what is not among them lasts as it is.
type blocks map[int][]byte

// left is what writes leave in blocks: of several into one block, what the last one wrote.
func left(l []api.Put) blocks {
	now := blocks{}
	for _, p := range l {
		now.put(p)
	}
	return now
}

// put copies a write's bytes, so that a block shares no memory with the write that made it and can be handed out.
func (now blocks) put(p api.Put) {
	if now[p.N] == nil {
		now[p.N] = make([]byte, api.Block)
	}
	copy(now[p.N], p.Data)
}

// lay makes the blocks last. Each is at a place of its own, so the order in which they are laid does not count.
func (now blocks) lay(data []byte) {
	for n, b := range now {
		copy(data[n*api.Block:], b)
	}
}
