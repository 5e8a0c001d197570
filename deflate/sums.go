package deflate

// adlerBase is the greatest prime number below 65536.
const adlerBase = 65521

// crcOfFour is what four bits make of a sum: sixteen words are enough, where a table for whole bytes would have 256.
var crcOfFour = [16]uint32{
	0x00000000, 0x1db71064, 0x3b6e20c8, 0x26d930ac,
	0x76dc4190, 0x6b6b51f4, 0x4db26158, 0x5005713c,
	0xedb88320, 0xf00f9344, 0xd6d6a3e8, 0xcb61b38c,
	0x9b64c2b0, 0x86d3d2d4, 0xa00ae278, 0xbdbdf21c,
}

// Adler is the Adler-32 of bytes.
func Adler(b []byte) uint32 {
	s, t := uint32(1), uint32(0)
	for _, x := range b {
		s = (s + uint32(x)) % adlerBase
		t = (t + s) % adlerBase
	}
	return t<<16 | s
}

// CRC is the CRC-32 of bytes.
func CRC(b []byte) uint32 {
	sum := ^uint32(0)
	for _, x := range b {
		sum ^= uint32(x)
		sum = sum>>4 ^ crcOfFour[sum&15]
		sum = sum>>4 ^ crcOfFour[sum&15]
	}
	return ^sum
}
