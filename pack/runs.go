package pack

// A byte up to maxOthers stands ahead of so many others; one above it stands for zeros, so many as it is more.
const (
	maxOthers = 127
	maxZeros  = 128
	minZeros  = 3 // fewer are no run, unless they are the last bytes
)

// appendRuns adds data to bytes as runs.
func appendRuns(b, data []byte) []byte {
	for len(data) > 0 {
		n := zeros(data)
		if n > 0 {
			b = append(b, byte(maxOthers+n))
		} else {
			n = others(data)
			b = append(append(b, byte(n)), data[:n]...)
		}
		data = data[n:]
	}
	return b
}

// zeros is the length of the run of zeros with which data begin, or 0.
func zeros(data []byte) int {
	n := 0
	for n < min(len(data), maxZeros) && data[n] == 0 {
		n++
	}
	if n < minZeros && n < len(data) {
		return 0
	}
	return n
}

// others is the length of the run of other bytes with which data begin.
func others(data []byte) int {
	n := 0
	for n < min(len(data), maxOthers) && zeros(data[n:]) == 0 {
		n++
	}
	return n
}
