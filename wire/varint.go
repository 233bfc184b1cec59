package wire

const (
	bitsPerByte = 7
	moreFollow  = 1 << bitsPerByte
	// lastShift is where the one bit stands that a tenth byte may add to the
	// 63 bits of the nine ahead of it.
	lastShift = 63
)

func appendVarint(b []byte, n uint64) []byte {
	for n >= moreFollow {
		b = append(b, byte(n)|moreFollow)
		n >>= bitsPerByte
	}
	return append(b, byte(n))
}

func (r *reader) varint() uint64 {
	var n uint64
	for shift := 0; ; shift += bitsPerByte {
		b := r.next()
		if isNeedless(b, shift) || isTooGreat(b, shift) {
			giveUp()
		}
		n |= uint64(b%moreFollow) << shift
		if b < moreFollow {
			return n
		}
	}
}

// isNeedless: a last byte that adds nothing could have been left out.
func isNeedless(b byte, shift int) bool {
	return b == 0 && shift > 0
}

// isTooGreat also keeps a tenth byte from being followed by another one.
func isTooGreat(b byte, shift int) bool {
	return shift == lastShift && b > 1
}
