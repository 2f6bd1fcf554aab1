package frame

import "millhand/api"

// beginning is the numbers with which a block begins.
type beginning [numbers]uint32

// Which number of a beginning is which.
const (
	genAt = iota
	numberAt
	saltAt
	prevAt
	numbers // how many there are
)

// Where the bytes of a block stand.
const (
	numberBytes = 4
	placeAt     = numbers * numberBytes // the block's number in its record, two bytes
	countAt     = placeAt + 2           // how many blocks the record has, two bytes
	sizeAt      = countAt + 2           // how many bytes of the record stand in this block, one byte
	partAt      = sizeAt + 1
	maxPart     = api.Block - partAt
)

const byteBits = 8

// needed is how many blocks a record of so many bytes has.
func needed(size int) int { return max(1, (size+maxPart-1)/maxPart) }

// filled is a block of a record, of what is left of its bytes, and how many of them it took.
func filled(h beginning, place, many int, rest []byte) (b []byte, took int) {
	b = make([]byte, api.Block)
	for i, n := range h {
		put(b[i*numberBytes:][:numberBytes], n)
	}
	put(b[placeAt:countAt], uint32(place))
	put(b[countAt:sizeAt], uint32(many))
	took = copy(b[partAt:], rest)
	b[sizeAt] = byte(took)
	return b, took
}

// begun is the beginning of a block.
func begun(b []byte) (h beginning) {
	for i := range h {
		h[i] = read(b[i*numberBytes:][:numberBytes])
	}
	return h
}

// count is how many blocks a block's record has, as it tells itself.
func count(b []byte) int { return int(read(b[countAt:sizeAt])) }

// part is the bytes of the record that stand in a block; one that tells of more than it has room for has just that.
func part(b []byte) []byte { return b[partAt:][:min(int(b[sizeAt]), maxPart)] }

// put writes a number into as many bytes as there are, the least first.
func put(b []byte, n uint32) {
	for i := range b {
		b[i] = byte(n >> (byteBits * i))
	}
}

// read reads what put writes.
func read(b []byte) (n uint32) {
	for i, x := range b {
		n |= uint32(x) << (byteBits * i)
	}
	return n
}
