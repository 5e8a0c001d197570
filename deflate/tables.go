package deflate

// What the symbols of both codes mean: chapter 1.3.
const (
	endOfBlock    = 256
	firstLength   = 257
	lengthCount   = 29
	distanceCount = 30
)

var lengthStart = [lengthCount]int{
	3, 4, 5, 6, 7, 8, 9, 10, 11, 13, 15, 17, 19, 23, 27,
	31, 35, 43, 51, 59, 67, 83, 99, 115, 131, 163, 195, 227, 258,
}

var lengthBits = [lengthCount]int{
	0, 0, 0, 0, 0, 0, 0, 0, 1, 1, 1, 1, 2, 2, 2,
	2, 3, 3, 3, 3, 4, 4, 4, 4, 5, 5, 5, 5, 0,
}

var distanceStart = [distanceCount]int{
	1, 2, 3, 4, 5, 7, 9, 13, 17, 25, 33, 49, 65, 97, 129,
	193, 257, 385, 513, 769, 1025, 1537, 2049, 3073, 4097,
	6145, 8193, 12289, 16385, 24577,
}

var distanceBits = [distanceCount]int{
	0, 0, 0, 0, 1, 1, 2, 2, 3, 3, 4, 4, 5, 5, 6,
	6, 7, 7, 8, 8, 9, 9, 10, 10, 11, 11, 12, 12, 13, 13,
}

// The third code of kind 2 tells the lengths of the other two: its symbols up to 15 are lengths, these are more of one.
const (
	lastAgain   = 16
	fewNoughts  = 17
	manyNoughts = 18
	thirdCount  = 19
)

// thirdOrder is the order in which the third code's own lengths stand.
var thirdOrder = [thirdCount]int{
	16, 17, 18, 0, 8, 7, 9, 6, 10, 5, 11, 4, 12, 3, 13, 2, 14, 1, 15,
}
