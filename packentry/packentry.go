// Package packentry: one entry of a pack, by itself: see 5.1 and 5.2 in chapter 5.
package packentry

import (
	"gitlike/api"
	"gitlike/deflate"
)

// Read reads the entry that b begins with: what its head says, what comes out of its stream, and how many bytes of b it has.
func Read(b []byte) (h Head, data []byte, used int, err error) {
	h, stream, err := readHead(b)
	if err != nil {
		return Head{}, nil, 0, api.ErrPack
	}
	data, used, err = deflate.Inflate(stream, h.Size)
	if err != nil || len(data) < h.Size {
		return Head{}, nil, 0, api.ErrPack
	}
	return h, data, len(b) - len(stream) + used, nil
}

// Make makes an entry of bytes; how many they are is set in its head.
func Make(h Head, data []byte) []byte {
	h.Size = len(data)
	return append(h.write(), deflate.Deflate(data)...)
}
