package ops

// octets are the bytes of a module: those that are written, or those that are still to be read.
type octets struct{ bytes []byte }

// magic is what stands ahead of all.
const magic = "WARP"

// sumSize is how many bytes the sum has.
const sumSize = 4

// more is what a byte of a number has beside its seven bits, if it is not the last one.
const more = 1 << 7

// sum tells the four bytes of the sum of all.
func (o *octets) sum() [sumSize]byte {
	n := uint32(5381)
	for _, b := range o.bytes {
		n = 33*n + uint32(b)
	}
	return [...]byte{byte(n), byte(n >> 8), byte(n >> 16), byte(n >> 24)}
}
