package code

// A number is seven bits a byte; the eighth says that another byte comes.
const (
	width   = 7
	low     = 1<<width - 1
	more    = 1 << width
	longest = 10 // bytes of 64 bits
	last    = 1  // the greatest tenth byte: nine of them leave one bit of 64
)

// fold gives 2 n, or -2 n - 1 of what is below 0: small numbers of both signs become small.
func fold(n int) uint64 {
	if n < 0 {
		// -n would wrap at the least int, -(n + 1) does not.
		return uint64(-(n+1))<<1 | 1
	}
	return uint64(n) << 1
}

// unfold gives the number that folds to u.
func unfold(u uint64) int {
	n := int(u >> 1)
	if u&1 == 1 {
		return -n - 1
	}
	return n
}
