package impl

const MaxNum = 2147483647
const MaxText = 40

// maxNumBytes is five because MaxNum has 31 bits, seven of which go into a byte.
const maxNumBytes = 5

// moreFollow is what a byte has added when it is not a number's last one.
const moreFollow = 128

func PutNum(b []byte, n int) []byte {
	if n < 0 || n > MaxNum {
		return joined(b, nil)
	}
	digits, count := numBytes(n)
	return joined(b, digits[:count])
}

func GetNum(b []byte, at int) (int, int) {
	if at < 0 || at >= len(b) {
		return 0, -1
	}
	rest := b[at:]
	n, weight := 0, 1
	for i := 0; i < maxNumBytes && i < len(rest); i++ {
		digit := int(rest[i])
		if digit >= moreFollow {
			n += (digit - moreFollow) * weight
			weight *= moreFollow
			continue
		}
		n += digit * weight
		// A last byte 0 behind others would be a second way to write the number.
		if i > 0 && digit == 0 || n > MaxNum {
			return 0, -1
		}
		return n, at + i + 1
	}
	return 0, -1
}

func PutText(b []byte, t []byte) []byte {
	if len(t) > MaxText {
		return joined(b, nil)
	}
	return joined(PutNum(b, len(t)), t)
}

func GetText(b []byte, at int) ([]byte, int) {
	count, from := GetNum(b, at)
	if from < 0 || count > MaxText || count > len(b)-from {
		return nil, -1
	}
	return joined(nil, b[from:from+count]), from + count
}

// numBytes tells the bytes of n, which is in 0 .. MaxNum, and how many of them count.
func numBytes(n int) ([maxNumBytes]byte, int) {
	var digits [maxNumBytes]byte
	last := 0
	for n >= moreFollow {
		digits[last] = byte(n%moreFollow + moreFollow)
		n /= moreFollow
		last++
	}
	digits[last] = byte(n)
	return digits, last + 1
}

// joined takes new memory where append would write into the spare room behind b.
func joined(b, more []byte) []byte {
	out := make([]byte, len(b)+len(more))
	copy(out, b)
	copy(out[len(b):], more)
	return out
}
