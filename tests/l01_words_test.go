package tests

import (
	"math"
	"math/big"
	"testing"

	"loop.example/g00725/impl"
)

// farNumbers are the edges of all that an int64 tells, and numbers that would be small ones if they were cut.
var farNumbers = []int64{
	math.MinInt64, math.MinInt64 + 1, math.MinInt64 + 8, -1 << 32, -1<<32 + 1, -256, -9, -8, -2, -1,
	0, 1, 2, 3, 4, 5, 6, 7, 8, 9, 10, 11, 12, 16, 64, 255, 256, 257, 264, 1<<31 - 1, 1 << 31, 1<<32 - 1, 1 << 32, 1<<32 + 1,
	1<<32 + 8, math.MaxInt64 - 8, math.MaxInt64 - 7, math.MaxInt64 - 1, math.MaxInt64,
}

// greatestOf is the greatest number that there is in so many bytes, as far as an int64 tells it.
func greatestOf(size int64) int64 {
	if size == 8 {
		return math.MaxInt64
	}
	return 1<<(8*size) - 1
}

// wantPack works PackWord out in numbers without bounds.
func wantPack(n int64, size int64) impl.BytesResult {
	if size < 1 || size > 8 || n < 0 {
		return impl.BytesResult{Code: impl.ErrRange}
	}
	limit := new(big.Int).Exp(big.NewInt(256), big.NewInt(size), nil)
	if big.NewInt(n).Cmp(limit) >= 0 {
		return impl.BytesResult{Code: impl.ErrRange}
	}
	return impl.BytesResult{Bytes: big.NewInt(n).FillBytes(make([]byte, size))}
}

// wantRead works ReadWord out in numbers without bounds.
func wantRead(data []byte, at int64, size int64) impl.IntResult {
	end := new(big.Int).Add(big.NewInt(at), big.NewInt(size))
	if size < 1 || size > 8 || at < 0 || end.Cmp(big.NewInt(int64(len(data)))) > 0 {
		return impl.IntResult{Code: impl.ErrRange}
	}
	n := new(big.Int).SetBytes(data[at : at+size])
	if !n.IsInt64() {
		return impl.IntResult{Code: impl.ErrForm}
	}
	return impl.IntResult{Value: n.Int64()}
}

func checkPack(t *testing.T, n int64, size int64) {
	t.Helper()
	got, want := impl.PackWord(n, size), wantPack(n, size)
	if got.Code != want.Code || string(got.Bytes) != string(want.Bytes) {
		t.Errorf("PackWord(%d, %d) = %v, want %v", n, size, got, want)
	}
}

func checkRead(t *testing.T, data []byte, at int64, size int64) {
	t.Helper()
	if got, want := impl.ReadWord(data, at, size), wantRead(data, at, size); got != want {
		t.Errorf("ReadWord(%v, %d, %d) = %v, want %v", data, at, size, got, want)
	}
}

func TestPackWordHighestByteFirst(t *testing.T) {
	got := impl.PackWord(0x0102030405060708, 8)
	if got.Code != impl.OK || string(got.Bytes) != "\x01\x02\x03\x04\x05\x06\x07\x08" {
		t.Errorf("eight bytes: %v", got)
	}
	got = impl.PackWord(258, 4)
	if got.Code != impl.OK || string(got.Bytes) != "\x00\x00\x01\x02" {
		t.Errorf("258 in four bytes: %v", got)
	}
	got = impl.PackWord(math.MaxInt64, 8)
	if got.Code != impl.OK || string(got.Bytes) != "\x7f\xff\xff\xff\xff\xff\xff\xff" {
		t.Errorf("the greatest number: %v", got)
	}
}

func TestWordsAreReadBack(t *testing.T) {
	for size := int64(1); size <= 8; size++ {
		greatest := greatestOf(size)
		for _, n := range []int64{0, 1, 127, 128, 255, greatest / 256, greatest/256 + 1, greatest / 3, greatest/2 + 1, greatest - 1, greatest} {
			if n > greatest {
				continue
			}
			checkPack(t, n, size)
			word := impl.PackWord(n, size)
			if word.Code != impl.OK || int64(len(word.Bytes)) != size {
				t.Errorf("PackWord(%d, %d) = %v", n, size, word)
				continue
			}
			if got := impl.ReadWord(word.Bytes, 0, size); got != (impl.IntResult{Value: n}) {
				t.Errorf("%d in %d bytes is read back as %v", n, size, got)
			}
		}
	}
}

func TestPackWordBehindTheGreatest(t *testing.T) {
	for size := int64(1); size <= 7; size++ {
		for _, n := range []int64{greatestOf(size) + 1, greatestOf(size) + 2, math.MaxInt64} {
			got := impl.PackWord(n, size)
			if got.Code != impl.ErrRange || len(got.Bytes) != 0 {
				t.Errorf("PackWord(%d, %d) = %v, want ErrRange", n, size, got)
			}
		}
	}
}

func TestPackWordWrongInputs(t *testing.T) {
	for _, row := range [][2]int64{
		{0, 0}, {0, 9}, {0, -1}, {0, math.MinInt64}, {0, math.MaxInt64}, {0, 1<<32 + 1}, {1, 257}, {-1, 0}, {-1, 9},
		{-1, 1}, {-1, 7}, {-1, 8}, {-256, 2}, {math.MinInt64, 1}, {math.MinInt64, 8}, {math.MaxInt64, 9},
	} {
		got := impl.PackWord(row[0], row[1])
		if got.Code != impl.ErrRange || len(got.Bytes) != 0 {
			t.Errorf("PackWord(%d, %d) = %v, want ErrRange", row[0], row[1], got)
		}
	}
	for _, n := range farNumbers {
		for _, size := range farNumbers {
			checkPack(t, n, size)
		}
	}
}

func TestReadWordAtEachPlace(t *testing.T) {
	for _, data := range [][]byte{
		nil, {}, {7}, {1, 2, 3, 4, 5, 6, 7, 8}, {9, 8, 7, 6, 5, 4, 3, 2, 1},
		{0, 1, 128, 255, 127, 255, 255, 255, 255, 255, 255, 255, 128, 0, 0, 0},
	} {
		for at := int64(-3); at <= int64(len(data))+3; at++ {
			for size := int64(-3); size <= 12; size++ {
				checkRead(t, data, at, size)
			}
		}
		for _, at := range farNumbers {
			for _, size := range farNumbers {
				checkRead(t, data, at, size)
			}
		}
	}
}

func TestReadWordWrongPlaces(t *testing.T) {
	data := []byte{1, 2, 3, 4}
	for _, row := range [][2]int64{
		{-1, 1}, {math.MinInt64, 1}, {4, 1}, {3, 2}, {1, 4}, {5, 1}, {math.MaxInt64, 1}, {math.MaxInt64 - 7, 8},
		{math.MaxInt64, 8}, {1 << 32, 1}, {0, 0}, {0, -1}, {0, 5}, {0, 9}, {0, math.MinInt64}, {0, math.MaxInt64},
		{4, 0}, {2, math.MaxInt64}, {math.MaxInt64, math.MaxInt64}, {math.MinInt64, math.MinInt64},
	} {
		if got := impl.ReadWord(data, row[0], row[1]); got != (impl.IntResult{Code: impl.ErrRange}) {
			t.Errorf("ReadWord at %d of size %d = %v, want ErrRange", row[0], row[1], got)
		}
	}
	if got := impl.ReadWord(make([]byte, 20), 0, 9); got.Code != impl.ErrRange {
		t.Errorf("nine bytes that are there: %v, want ErrRange", got)
	}
	if got := impl.ReadWord(nil, 0, 1); got.Code != impl.ErrRange {
		t.Errorf("a byte of none: %v, want ErrRange", got)
	}
	if got := impl.ReadWord(data, 3, 1); got != (impl.IntResult{Value: 4}) {
		t.Errorf("the last byte: %v, want 4", got)
	}
}

func TestReadWordAboveAllNumbers(t *testing.T) {
	for _, first := range []byte{128, 129, 255} {
		for _, rest := range []byte{0, 1, 255} {
			word := []byte{first, rest, rest, rest, rest, rest, rest, rest}
			if got := impl.ReadWord(word, 0, 8); got != (impl.IntResult{Code: impl.ErrForm}) {
				t.Errorf("ReadWord of %v = %v, want ErrForm", word, got)
			}
			if got := impl.ReadWord(word, 1, 8); got != (impl.IntResult{Code: impl.ErrRange}) {
				t.Errorf("one byte too few: %v, want ErrRange", got)
			}
			if got := impl.ReadWord(append([]byte{1}, word...), 1, 8); got.Code != impl.ErrForm {
				t.Errorf("behind another byte: %v, want ErrForm", got)
			}
			checkRead(t, word, 0, 7)
		}
	}
	word := []byte{127, 255, 255, 255, 255, 255, 255, 255}
	if got := impl.ReadWord(word, 0, 8); got != (impl.IntResult{Value: math.MaxInt64}) {
		t.Errorf("the greatest number: %v", got)
	}
}
