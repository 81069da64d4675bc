package chunk

// polynomial of the sum, its bits the other way round: the lowest first.
const polynomial = 0xEDB88320

const sumBytes = 4

// Sum of bytes: what a chunk has behind it, and a record of a log.
func Sum(s string) uint32 {
	rest := ^uint32(0)
	for i := range len(s) {
		rest ^= uint32(s[i])
		for range byteBits {
			rest = shifted(rest)
		}
	}
	return ^rest
}

// shifted by one bit: the polynomial goes off where that bit is 1.
func shifted(rest uint32) uint32 {
	if rest&1 == 0 {
		return rest >> 1
	}
	return rest>>1 ^ polynomial
}

// sealed bytes have their sum behind them, its highest byte first.
func sealed(s string) string {
	n := Sum(s)
	return s + string([]byte{byte(n >> 24), byte(n >> 16), byte(n >> 8), byte(n)})
}
