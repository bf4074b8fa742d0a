package impl

import (
	"bytes"
	"math"
	"math/bits"
)

const OK = 0
const ErrForm = 1
const ErrMany = 2
const ErrRange = 3
const ErrNone = 4
const ErrText = 5
const ErrTaken = 6
const ErrFull = 7
const ErrState = 8
const ErrSeal = 9
const MaxBytes = 800

type IntResult struct {
	Code  int64
	Value int64
}
type BytesResult struct {
	Code  int64
	Bytes []byte
}

// maxWordSize: eight bytes hold every number that an int64 can tell.
const maxWordSize = 8

// fieldRest is what the power 8 leaves by the polynomial of the powers 8, 4, 3, 1 and 0.
const fieldRest = 1<<4 | 1<<3 | 1<<1 | 1<<0

// span is a number and the bounds, both of them allowed, that it has to keep.
type span struct {
	value int64
	low   int64
	high  int64
}

// within tells whether every number keeps its bounds.
func within(spans ...span) bool {
	for _, s := range spans {
		if s.value < s.low || s.value > s.high {
			return false
		}
	}
	return true
}

// timesPowerOne is a times the polynomial of the power 1 alone.
func timesPowerOne(a byte) byte {
	if a>>7 == 1 {
		return a<<1 ^ fieldRest
	}
	return a << 1
}

// productsOf answers a closure that tells the product of a and whatever byte it is given:
// a times each single power is worked out once, for all products that are asked of it.
func productsOf(a byte) func(b byte) byte {
	var parts [8]byte
	for i := range parts {
		parts[i] = a
		a = timesPowerOne(a)
	}
	return func(b byte) byte {
		product := byte(0)
		for i, part := range parts {
			if b>>i&1 == 1 {
				product ^= part
			}
		}
		return product
	}
}

func FieldTimes(a byte, b byte) byte {
	return productsOf(a)(b)
}

// FieldInverse is a to the power of 254: each byte but 0 to the power of 255 is 1, and 0 stays 0.
func FieldInverse(a byte) byte {
	inverse := byte(1)
	square := FieldTimes(a, a)
	for range 7 { // 254 is 2 + 4 + 8 + 16 + 32 + 64 + 128
		times := productsOf(square)
		inverse = times(inverse)
		square = times(square)
	}
	return inverse
}

func SubByte(a byte) byte {
	return boxOfInverse(FieldInverse(a))
}

// boxOfInverse is SubByte of the byte with this inverse: who knows the inverse need not work it out again.
func boxOfInverse(inverse byte) byte {
	sum := byte(99)
	for _, turn := range [5]int{0, 4, 5, 6, 7} {
		sum ^= bits.RotateLeft8(inverse, -turn)
	}
	return sum
}

func XorBytes(a []byte, b []byte) BytesResult {
	if !within(span{int64(len(a)), 0, MaxBytes}) {
		return BytesResult{Code: ErrMany}
	}
	if len(b) != len(a) {
		return BytesResult{Code: ErrForm}
	}
	sum := make([]byte, len(a))
	for i := range sum {
		sum[i] = a[i] ^ b[i]
	}
	return BytesResult{Bytes: sum}
}

func PackWord(n int64, size int64) BytesResult {
	// A shift by all 64 bits leaves 0, so that nothing is too great for eight bytes.
	if !within(span{size, 1, maxWordSize}, span{n, 0, math.MaxInt64}) || n>>(8*size) != 0 {
		return BytesResult{Code: ErrRange}
	}
	word := make([]byte, size)
	for i := size - 1; i >= 0; i-- {
		word[i] = byte(n % 256)
		n /= 256
	}
	return BytesResult{Bytes: word}
}

func ReadWord(data []byte, at int64, size int64) IntResult {
	count := int64(len(data))
	// The room behind at is asked, not the end at + size: that could overflow.
	if !within(span{size, 1, maxWordSize}, span{at, 0, count}) || count-at < size {
		return IntResult{Code: ErrRange}
	}
	n := int64(0)
	for _, b := range data[at : at+size] {
		if n > math.MaxInt64/256 { // one byte more would leave int64
			return IntResult{Code: ErrForm}
		}
		n = n*256 + int64(b)
	}
	return IntResult{Value: n}
}

func SameBytes(a []byte, b []byte) bool {
	return bytes.Equal(a, b)
}
