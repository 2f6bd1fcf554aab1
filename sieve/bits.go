package sieve

const (
	bitsOfKey = 4
	hashStart = 14695981039346656037
	hashTimes = 1099511628211
)

// eachBit does what it is handed to the bits of a key in a sieve of so many bytes, each told by its byte's place and its mask there, as long as that answers true; whether it did so for all of them.
func eachBit(key string, size int, do func(at int, mask byte) bool) bool {
	h := hash(key)
	bits := uint64(size) * 8
	for i := range uint64(bitsOfKey) {
		n := (low(h) + i*odd(high(h))) % bits
		if !do(int(n/8), 1<<(n%8)) {
			return false
		}
	}
	return true
}

// hash goes through bytes, not runes: keys need not be UTF-8.
func hash(key string) uint64 {
	h := uint64(hashStart)
	for i := range len(key) {
		h ^= uint64(key[i])
		h *= hashTimes
	}
	return h
}

func low(h uint64) uint64 { return h & (1<<32 - 1) }

func high(h uint64) uint64 { return h >> 32 }

// odd makes a step of which no two and no three come to a multiple of eight: a key's bits are four different ones, whatever the sieve's size.
func odd(n uint64) uint64 { return n | 1 }
