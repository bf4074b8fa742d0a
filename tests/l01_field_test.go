package tests

import (
	"testing"

	"loop.example/g00725/impl"
)

// longProduct works a product out as the document tells it: the whole product first, then what the polynomial of the
// powers 8, 4, 3, 1 and 0 leaves of it.
func longProduct(a byte, b byte) byte {
	const divisor = 1<<8 | 1<<4 | 1<<3 | 1<<1 | 1<<0
	long := 0
	for i := range 8 {
		if b>>i&1 == 1 {
			long ^= int(a) << i
		}
	}
	for i := 14; i >= 8; i-- {
		if long>>i&1 == 1 {
			long ^= divisor << (i - 8)
		}
	}
	return byte(long)
}

// searchedInverse looks for the inverse among all bytes, so that it leans on nothing of the program.
func searchedInverse(a byte) byte {
	for b := range 256 {
		if longProduct(a, byte(b)) == 1 {
			return byte(b)
		}
	}
	return 0
}

func TestFieldTimesExamples(t *testing.T) {
	for _, row := range [][3]byte{
		{87, 131, 193}, {131, 87, 193}, {87, 19, 254}, {2, 128, 27}, {128, 2, 27}, {2, 2, 4},
		{3, 3, 5}, {1, 255, 255}, {255, 1, 255}, {0, 255, 0}, {255, 0, 0}, {0, 0, 0}, {255, 255, 19},
	} {
		if got := impl.FieldTimes(row[0], row[1]); got != row[2] {
			t.Errorf("FieldTimes(%d, %d) = %d, want %d", row[0], row[1], got, row[2])
		}
	}
}

func TestFieldTimesOfAllBytes(t *testing.T) {
	for a := range 256 {
		for b := range 256 {
			got, want := impl.FieldTimes(byte(a), byte(b)), longProduct(byte(a), byte(b))
			if got != want {
				t.Fatalf("FieldTimes(%d, %d) = %d, want %d", a, b, got, want)
			}
			if other := impl.FieldTimes(byte(b), byte(a)); other != got {
				t.Fatalf("FieldTimes(%d, %d) = %d, but the other way %d", a, b, got, other)
			}
		}
	}
}

func TestFieldTimesOfSums(t *testing.T) {
	for a := range 256 {
		for b := range 256 {
			for _, c := range []byte{1, 2, 4, 8, 16, 32, 64, 128, 27, 99, 255} {
				x, y := byte(a), byte(b)
				if impl.FieldTimes(x, y^c) != impl.FieldTimes(x, y)^impl.FieldTimes(x, c) {
					t.Fatalf("%d times the sum of %d and %d is not the sum of the products", a, b, c)
				}
				if impl.FieldTimes(impl.FieldTimes(x, y), c) != impl.FieldTimes(x, impl.FieldTimes(y, c)) {
					t.Fatalf("the product of %d, %d and %d hangs on which is told first", a, b, c)
				}
			}
		}
	}
}

func TestFieldInverse(t *testing.T) {
	if got := impl.FieldInverse(0); got != 0 {
		t.Errorf("FieldInverse(0) = %d, want 0", got)
	}
	if got := impl.FieldInverse(1); got != 1 {
		t.Errorf("FieldInverse(1) = %d, want 1", got)
	}
	for a := range 256 {
		got := impl.FieldInverse(byte(a))
		if want := searchedInverse(byte(a)); got != want {
			t.Errorf("FieldInverse(%d) = %d, want %d", a, got, want)
		}
		if a > 0 && impl.FieldTimes(byte(a), got) != 1 {
			t.Errorf("%d times its inverse %d is not 1", a, got)
		}
		if back := impl.FieldInverse(got); back != byte(a) {
			t.Errorf("the inverse of the inverse of %d is %d", a, back)
		}
	}
}

func TestSubByteExamples(t *testing.T) {
	for _, row := range [][2]byte{{0, 99}, {1, 124}, {83, 237}, {255, 22}, {16, 202}, {82, 0}, {154, 184}} {
		if got := impl.SubByte(row[0]); got != row[1] {
			t.Errorf("SubByte(%d) = %d, want %d", row[0], got, row[1])
		}
	}
}

func TestSubByteBitByBit(t *testing.T) {
	var used [256]bool
	for a := range 256 {
		inverse := searchedInverse(byte(a))
		got := impl.SubByte(byte(a))
		for i := range 8 {
			bit := byte(99) >> i & 1
			for _, step := range []int{0, 4, 5, 6, 7} {
				bit ^= inverse >> ((i + step) % 8) & 1
			}
			if got>>i&1 != bit {
				t.Errorf("bit %d of SubByte(%d) = %d, want %d", i, a, got>>i&1, bit)
			}
		}
		if used[got] {
			t.Errorf("SubByte(%d) = %d, and that of another byte, too", a, got)
		}
		used[got] = true
	}
}
