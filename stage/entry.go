package stage

import "gitlike/api"

// Where an entry's fields stand in its bytes. What is between them is 0.
const (
	modeAt  = 24
	sizeAt  = 36
	idAt    = 40
	stageAt = 60 // the stage and the path's length are one number of two bytes
	pathAt  = 62
)

const (
	stageWorth = 4096
	lineUp     = 8 // an entry's bytes are a multiple of that
)

// entryBytes tells how many bytes an entry has: behind its path there is always one 0 at least.
func entryBytes(e api.Entry) int { return (pathAt+len(e.Path))/lineUp*lineUp + lineUp }

// writeEntry writes an entry that is right.
func writeEntry(e api.Entry) []byte {
	b := make([]byte, entryBytes(e))
	putNumber(b[modeAt:], int(e.Mode))
	putNumber(b[sizeAt:], e.Size)
	copy(b[idAt:], e.ID[:])
	both := e.Stage*stageWorth + len(e.Path)
	b[stageAt], b[stageAt+1] = byte(both>>8), byte(both)
	copy(b[pathAt:], e.Path)
	return b
}

// readEntry reads the entry that b begins with, which goes as far as its path at least; if the path is cut off, what is there of it.
func readEntry(b []byte) api.Entry {
	both := int(b[stageAt])<<8 | int(b[stageAt+1])
	end := min(pathAt+both%stageWorth, len(b))
	e := api.Entry{
		Path:  string(b[pathAt:end]),
		Mode:  api.Mode(readNumber(b[modeAt:])),
		Size:  readNumber(b[sizeAt:]),
		Stage: both / stageWorth,
	}
	copy(e.ID[:], b[idAt:])
	return e
}

// putNumber writes a number to the front of b, the highest byte first.
func putNumber(b []byte, n int) {
	for i := range numberBytes {
		b[numberBytes-1-i] = byte(n >> (8 * i))
	}
}

// readNumber reads the number that b begins with.
func readNumber(b []byte) int {
	n := 0
	for _, x := range b[:numberBytes] {
		n = n<<8 | int(x)
	}
	return n
}
