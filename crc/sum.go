package crc

// divisor is what a sum is xored with each time that it was odd.
const divisor = 0xEDB88320

// tailSize is how many bytes a check sum takes behind the data.
const tailSize = 4

func takeByte(sum uint32, b byte) uint32 {
	sum ^= uint32(b)
	for range 8 {
		// Times the lowest bit, not an if: that bit is as good as chance, and a branch on it made a sum nine times as slow.
		sum = sum>>1 ^ divisor*(sum&1)
	}
	return sum
}

// tailOf is the check sum as it stands behind the data, the lowest byte first.
func tailOf(data []byte) [tailSize]byte {
	sum := Sum(data)
	var tail [tailSize]byte
	for i := range tailSize {
		tail[i] = byte(sum >> (8 * i))
	}
	return tail
}
