package impl

const (
	hexDigits = "0123456789abcdef"

	// maxWidth is the largest number of bytes whose every value fits into an int64.
	maxWidth = 7

	keySize = 32
)

func HexOf(s string) string {
	out := make([]byte, 0, 2*len(s))
	for i := 0; i < len(s); i++ {
		out = append(out, hexDigits[s[i]>>4], hexDigits[s[i]&15])
	}
	return string(out)
}

func ReadHex(s string) (string, bool) {
	if len(s)%2 != 0 {
		return "", false
	}
	out := make([]byte, len(s)/2)
	// Every rune that is accepted is a single byte, so i is also the number of digits before it.
	for i, r := range s {
		v, ok := digitValue(r)
		if !ok {
			return "", false
		}
		out[i/2] = out[i/2]<<4 | v
	}
	return string(out), true
}

func digitValue(r rune) (byte, bool) {
	switch {
	case r >= '0' && r <= '9':
		return byte(r - '0'), true
	case r >= 'a' && r <= 'f':
		return byte(r-'a') + 10, true
	}
	return 0, false
}

func XorOf(a string, b string) string {
	if len(a) != len(b) {
		return ""
	}
	out := make([]byte, len(a))
	for i := range out {
		out[i] = a[i] ^ b[i]
	}
	return string(out)
}

func NumBytes(n int64, k int64) string {
	if k < 1 || k > maxWidth || n < 0 || n>>(8*k) != 0 {
		return ""
	}
	return bigEndian(uint64(n), int(k))
}

func BytesNum(s string) (int64, bool) {
	if len(s) < 1 || len(s) > maxWidth {
		return 0, false
	}
	n := int64(0)
	for i := 0; i < len(s); i++ {
		n = n<<8 | int64(s[i])
	}
	return n, true
}

// bigEndian serves the encodings in eight bytes, for which NumBytes has no room.
func bigEndian(n uint64, k int) string {
	out := make([]byte, k)
	for i := range out {
		out[i] = byte(n >> (8 * (k - 1 - i)))
	}
	return string(out)
}

func littleEndian(n uint64, k int) string {
	out := make([]byte, k)
	for i := range out {
		out[i] = byte(n >> (8 * i))
	}
	return string(out)
}

func littleNum(s string) uint64 {
	n := uint64(0)
	for i := 0; i < len(s); i++ {
		n |= uint64(s[i]) << (8 * i)
	}
	return n
}

func isKey(s string) bool {
	return len(s) == keySize
}

func allKeys(list ...string) bool {
	for _, key := range list {
		if !isKey(key) {
			return false
		}
	}
	return true
}
