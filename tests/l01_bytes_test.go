package tests

import (
	"testing"

	"loop.example/g00725/impl"
)

// mixedBytes are count bytes, by seed others than by another one.
func mixedBytes(count int, seed int) []byte {
	out := make([]byte, count)
	for i := range out {
		out[i] = byte(i*i + i*seed + seed/3 + i>>8)
	}
	return out
}

func TestCodesAndBounds(t *testing.T) {
	codes := []int64{
		impl.OK, impl.ErrForm, impl.ErrMany, impl.ErrRange, impl.ErrNone,
		impl.ErrText, impl.ErrTaken, impl.ErrFull, impl.ErrState, impl.ErrSeal,
	}
	for i, code := range codes {
		if code != int64(i) {
			t.Errorf("code %d of the table is %d", i, code)
		}
	}
	if impl.MaxBytes != 800 {
		t.Errorf("MaxBytes is %d, want 800", impl.MaxBytes)
	}
}

func TestXorBytesIsByteByByte(t *testing.T) {
	for _, count := range []int{0, 1, 2, 15, 16, 17, 255, 256, 799, impl.MaxBytes} {
		a, b := mixedBytes(count, 5), mixedBytes(count, 12)
		got := impl.XorBytes(a, b)
		if got.Code != impl.OK || len(got.Bytes) != count {
			t.Errorf("of %d bytes: code %d and %d bytes", count, got.Code, len(got.Bytes))
			continue
		}
		for i := range got.Bytes {
			if got.Bytes[i] != a[i]^b[i] {
				t.Errorf("of %d bytes: byte %d is %d, want %d", count, i, got.Bytes[i], a[i]^b[i])
			}
		}
	}
	if got := impl.XorBytes([]byte{5, 6}, []byte{1, 6}); string(got.Bytes) != "\x04\x00" {
		t.Errorf("of 5, 6 and 1, 6: %v, want 4, 0", got)
	}
}

func TestXorTwiceIsNothing(t *testing.T) {
	for _, count := range []int{0, 1, 16, 33, impl.MaxBytes} {
		a, b := mixedBytes(count, 1), mixedBytes(count, 8)
		back := impl.XorBytes(impl.XorBytes(a, b).Bytes, b)
		if back.Code != impl.OK || string(back.Bytes) != string(a) {
			t.Errorf("of %d bytes: xor twice is not what it was: %v", count, back)
		}
		if self := impl.XorBytes(a, a); self.Code != impl.OK || string(self.Bytes) != string(make([]byte, count)) {
			t.Errorf("of %d bytes: with itself: %v, want zeros", count, self)
		}
	}
}

func TestXorBytesCodes(t *testing.T) {
	const most = impl.MaxBytes
	for _, row := range []struct {
		a, b int
		code int64
	}{
		{most, most, impl.OK}, {most + 1, most + 1, impl.ErrMany}, {5000, 5000, impl.ErrMany},
		// ErrMany is named first: it is the answer where the lengths differ, too.
		{most + 1, most, impl.ErrMany}, {most + 1, 0, impl.ErrMany}, {most + 1, most + 2, impl.ErrMany},
		{most, most + 1, impl.ErrForm}, {most, most - 1, impl.ErrForm}, {most - 1, most, impl.ErrForm},
		{0, 1, impl.ErrForm}, {1, 0, impl.ErrForm}, {0, most + 1, impl.ErrForm}, {2, 3, impl.ErrForm}, {3, 2, impl.ErrForm},
		{0, 0, impl.OK}, {1, 1, impl.OK},
	} {
		got := impl.XorBytes(mixedBytes(row.a, 3), mixedBytes(row.b, 4))
		if got.Code != row.code {
			t.Errorf("of %d and %d bytes: code %d, want %d", row.a, row.b, got.Code, row.code)
		}
		if got.Code != impl.OK && len(got.Bytes) != 0 {
			t.Errorf("of %d and %d bytes: bytes stand beside the code %d", row.a, row.b, got.Code)
		}
	}
}

func TestNilAndEmptyAreTheSame(t *testing.T) {
	for _, a := range [][]byte{nil, {}} {
		for _, b := range [][]byte{nil, {}} {
			if got := impl.XorBytes(a, b); got.Code != impl.OK || len(got.Bytes) != 0 {
				t.Errorf("XorBytes of %#v and %#v = %v, want nothing", a, b, got)
			}
			if !impl.SameBytes(a, b) {
				t.Errorf("SameBytes of %#v and %#v is false", a, b)
			}
		}
		if impl.XorBytes(a, []byte{0}).Code != impl.ErrForm || impl.XorBytes([]byte{0}, a).Code != impl.ErrForm {
			t.Errorf("XorBytes of %#v and one byte has not ErrForm", a)
		}
		if impl.SameBytes(a, []byte{0}) || impl.SameBytes([]byte{0}, a) {
			t.Errorf("SameBytes of %#v and a zero is true", a)
		}
	}
}

func TestSameBytes(t *testing.T) {
	for _, row := range []struct {
		a, b string
		same bool
	}{
		{"a", "a", true}, {"abc", "abc", true}, {"\x00", "\x00", true}, {"\xff\x00", "\xff\x00", true},
		{"a", "b", false}, {"abc", "abd", false}, {"abc", "bbc", false}, {"abc", "aXc", false}, {"ab", "ba", false},
		{"ab", "abc", false}, {"abc", "ab", false}, {"\x00", "\x00\x00", false}, {"\x7f", "\xff", false}, {"a", "A", false},
	} {
		if got := impl.SameBytes([]byte(row.a), []byte(row.b)); got != row.same {
			t.Errorf("SameBytes(%q, %q) = %v", row.a, row.b, got)
		}
	}
	// It has no bound: MaxBytes is not asked of it.
	long, other := mixedBytes(3*impl.MaxBytes, 9), mixedBytes(3*impl.MaxBytes, 9)
	if !impl.SameBytes(long, other) {
		t.Error("long lists that are the same are not")
	}
	other[len(other)-1] ^= 1
	if impl.SameBytes(long, other) {
		t.Error("long lists whose last bytes differ are the same")
	}
}
