package super

const (
	numberBytes = 4
	byteBits    = 8
)

// direction is which way a number goes.
type direction bool

const (
	read direction = false // out of its place
	put  direction = true  // into it
)

// number is a function of the four bytes of b from at on, the least first: it puts a number there, or reads the one that stands there, and answers it. Both ways are one, so that they can't part over the order of the bytes.
func number(b []byte, at int) func(direction, uint32) uint32 {
	place := b[at : at+numberBytes]
	return func(way direction, n uint32) uint32 {
		var there uint32
		for i := range place {
			if way == put {
				place[i] = byte(n >> (byteBits * i))
			}
			there |= uint32(place[i]) << (byteBits * i)
		}
		return there
	}
}
