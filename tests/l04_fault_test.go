package tests

import (
	"math"
	"testing"

	"loop.example/g00725/impl"
)

// ringKey is a right key of this Id, if the Id is; other Ids have other Bytes.
func ringKey(id int64) impl.Key {
	return impl.Key{Id: id, Bytes: mixedBytes(16, int(id))}
}

// sizedKey has as many Bytes as it is told.
func sizedKey(id int64, size int) impl.Key {
	return impl.Key{Id: id, Bytes: mixedBytes(size, int(id))}
}

func ringOf(primary int64, ids ...int64) impl.Ring {
	r := impl.Ring{Primary: primary}
	for _, id := range ids {
		r.Keys = append(r.Keys, ringKey(id))
	}
	return r
}

func ringOfKeys(primary int64, keys ...impl.Key) impl.Ring {
	return impl.Ring{Primary: primary, Keys: keys}
}

// keyIds are the edges of what an Id may be, and as far out as an int64 can tell.
var keyIds = []int64{
	math.MinInt64, math.MinInt64 + 1, -1 << 32, -1<<32 + 1, -256, -255, -2, -1, 0,
	1, 2, 3, 100, 254, 255, 256, 257, 511, 1<<31 - 1, 1 << 32, 1<<32 + 1, 1<<32 + 255, math.MaxInt64 - 1, math.MaxInt64,
}

func isRightId(id int64) bool {
	return 1 <= id && id <= 255
}

// wantRingFault asks code by code, as the document names them.
func wantRingFault(r impl.Ring) int64 {
	if len(r.Keys) == 0 || len(r.Keys) > 3 {
		return impl.ErrMany
	}
	for _, k := range r.Keys {
		if !isRightId(k.Id) {
			return impl.ErrRange
		}
		if len(k.Bytes) != 16 {
			return impl.ErrMany
		}
	}
	primaries := 0
	for i, k := range r.Keys {
		for _, ahead := range r.Keys[:i] {
			if ahead.Id >= k.Id {
				return impl.ErrForm
			}
		}
		if k.Id == r.Primary {
			primaries++
		}
	}
	if primaries == 0 {
		return impl.ErrNone
	}
	return impl.OK
}

func checkFault(t *testing.T, r impl.Ring, code int64) {
	t.Helper()
	if got := impl.RingFault(r); got != code {
		t.Errorf("RingFault(%v) = %d, want %d", r, got, code)
	}
}

func TestRingConstants(t *testing.T) {
	got := [5]int64{impl.MaxKeys, impl.MaxKeyId, impl.KeyInstall, impl.KeyUse, impl.KeyRemove}
	if got != [5]int64{3, 255, 1, 2, 3} {
		t.Errorf("the constants are %v", got)
	}
}

func TestRingFaultHowManyKeys(t *testing.T) {
	checkFault(t, impl.Ring{}, impl.ErrMany)
	checkFault(t, impl.Ring{Keys: []impl.Key{}}, impl.ErrMany)
	checkFault(t, impl.Ring{Primary: 1}, impl.ErrMany)
	checkFault(t, ringOf(1, 1), impl.OK)
	checkFault(t, ringOf(1, 1, 2), impl.OK)
	checkFault(t, ringOf(1, 1, 2, 3), impl.OK)
	checkFault(t, ringOf(1, 1, 2, 3, 4), impl.ErrMany)
	checkFault(t, ringOf(1, 1, 2, 3, 4, 5), impl.ErrMany)
	// What is behind the end of a list is none of its keys.
	longer := ringOf(1, 1, 2, 3, 4)
	checkFault(t, impl.Ring{Primary: 1, Keys: longer.Keys[:3]}, impl.OK)
	checkFault(t, impl.Ring{Primary: 4, Keys: longer.Keys[:3]}, impl.ErrNone)
}

func TestRingFaultOfEachId(t *testing.T) {
	for _, id := range keyIds {
		want := int64(impl.ErrRange)
		if isRightId(id) {
			want = impl.OK
		}
		checkFault(t, ringOf(id, id), want)
	}
	for id := range int64(300) {
		checkFault(t, ringOf(id, id), wantRingFault(ringOf(id, id)))
	}
	for _, id := range []int64{0, -1, 256, math.MinInt64, math.MaxInt64} {
		checkFault(t, ringOf(5, id, 5, 9), impl.ErrRange)
		checkFault(t, ringOf(5, 5, id, 9), impl.ErrRange)
		checkFault(t, ringOf(5, 5, 9, id), impl.ErrRange)
	}
}

func TestRingFaultOfBytes(t *testing.T) {
	for _, size := range []int{0, 1, 12, 15, 16, 17, 24, 32, 800, 801} {
		want := int64(impl.ErrMany)
		if size == 16 {
			want = impl.OK
		}
		checkFault(t, ringOfKeys(5, sizedKey(5, size)), want)
		checkFault(t, ringOfKeys(5, sizedKey(2, size), ringKey(5), ringKey(9)), want)
		checkFault(t, ringOfKeys(5, ringKey(5), sizedKey(7, size), ringKey(9)), want)
		checkFault(t, ringOfKeys(5, ringKey(5), ringKey(9), sizedKey(10, size)), want)
	}
	checkFault(t, ringOfKeys(5, impl.Key{Id: 5}), impl.ErrMany)
	checkFault(t, ringOfKeys(5, impl.Key{Id: 5, Bytes: []byte{}}), impl.ErrMany)
	// The capacity does not count.
	checkFault(t, ringOfKeys(5, impl.Key{Id: 5, Bytes: mixedBytes(32, 1)[:16]}), impl.OK)
	checkFault(t, ringOfKeys(5, impl.Key{Id: 5, Bytes: mixedBytes(16, 1)[:15]}), impl.ErrMany)
	checkFault(t, ringOfKeys(5, impl.Key{Id: 5, Bytes: make([]byte, 16)}, impl.Key{Id: 6, Bytes: make([]byte, 16)}), impl.OK)
}

func TestRingFaultOfIdsThatDoNotRise(t *testing.T) {
	checkFault(t, ringOf(5, 5, 2), impl.ErrForm)
	checkFault(t, ringOf(2, 5, 2), impl.ErrForm)
	checkFault(t, ringOf(5, 5, 5), impl.ErrForm)
	checkFault(t, ringOf(1, 1, 3, 2), impl.ErrForm)
	checkFault(t, ringOf(1, 2, 1, 3), impl.ErrForm)
	checkFault(t, ringOf(1, 1, 1, 2), impl.ErrForm)
	checkFault(t, ringOf(1, 1, 2, 2), impl.ErrForm)
	checkFault(t, ringOf(1, 1, 2, 1), impl.ErrForm)
	checkFault(t, ringOf(1, 3, 2, 1), impl.ErrForm)
	checkFault(t, ringOf(255, 1, 254, 255), impl.OK)
}

func TestRingFaultOfPrimary(t *testing.T) {
	for _, id := range keyIds {
		want := int64(impl.ErrNone)
		if id == 1 || id == 100 || id == 255 {
			want = impl.OK
		}
		checkFault(t, ringOf(id, 1, 100, 255), want)
		if id != 2 {
			checkFault(t, ringOf(id, 2), impl.ErrNone)
		}
	}
}

func TestRingFaultWhichCodeIsFirst(t *testing.T) {
	// How many keys there are is asked ahead of what they are.
	checkFault(t, ringOf(9, 0, 0, 0, 0), impl.ErrMany)
	checkFault(t, ringOf(0), impl.ErrMany)
	// One by one: the first key that has a fault, and of one key the Id first.
	checkFault(t, ringOfKeys(9, sizedKey(0, 15), ringKey(2)), impl.ErrRange)
	checkFault(t, ringOfKeys(9, sizedKey(1, 15), ringKey(0)), impl.ErrMany)
	checkFault(t, ringOfKeys(9, sizedKey(1, 17), sizedKey(256, 0)), impl.ErrMany)
	checkFault(t, ringOfKeys(9, ringKey(256), sizedKey(1, 15)), impl.ErrRange)
	checkFault(t, ringOfKeys(9, ringKey(3), sizedKey(2, 15), ringKey(-1)), impl.ErrMany)
	checkFault(t, ringOfKeys(9, ringKey(3), ringKey(-1), sizedKey(2, 15)), impl.ErrRange)
	// All of them ahead of how the Ids stand, and that ahead of Primary.
	checkFault(t, ringOfKeys(9, ringKey(3), ringKey(2), ringKey(256)), impl.ErrRange)
	checkFault(t, ringOfKeys(9, ringKey(3), ringKey(2), sizedKey(4, 0)), impl.ErrMany)
	checkFault(t, ringOfKeys(9, ringKey(3), ringKey(3), sizedKey(3, 0)), impl.ErrMany)
	checkFault(t, ringOf(9, 3, 2), impl.ErrForm)
	checkFault(t, ringOf(0, 3, 3), impl.ErrForm)
	checkFault(t, ringOf(9, 2, 3), impl.ErrNone)
}

func TestRingFaultOfAllSmallRings(t *testing.T) {
	var choices []impl.Key
	for _, id := range []int64{0, 1, 2, 3, 255, 256} {
		choices = append(choices, ringKey(id), sizedKey(id, 15))
	}
	// A list of up to four keys is a number to the base of one more than there are choices: the last digit is no key.
	base := len(choices) + 1
	for n := range base * base * base * base {
		var keys []impl.Key
		for rest := n; rest > 0; rest /= base {
			if digit := rest % base; digit > 0 {
				keys = append(keys, choices[digit-1])
			}
		}
		for _, primary := range []int64{0, 2, 255, 256} {
			r := impl.Ring{Primary: primary, Keys: keys}
			if got, want := impl.RingFault(r), wantRingFault(r); got != want {
				t.Fatalf("RingFault(%v) = %d, want %d", r, got, want)
			}
		}
	}
}

func TestNewRing(t *testing.T) {
	for _, id := range keyIds {
		for _, size := range []int{0, 15, 16, 17} {
			k := sizedKey(id, size)
			got := impl.NewRing(k)
			want := impl.RingResult{Ring: ringOfKeys(id, sizedKey(id, size))}
			switch {
			case !isRightId(id):
				want = impl.RingResult{Code: impl.ErrRange}
			case size != 16:
				want = impl.RingResult{Code: impl.ErrMany}
			}
			checkRing(t, "NewRing", got, want)
			if got.Code == impl.OK {
				checkFault(t, got.Ring, impl.OK)
			}
		}
	}
	checkRing(t, "NewRing of nothing", impl.NewRing(impl.Key{}), impl.RingResult{Code: impl.ErrRange})
	checkRing(t, "NewRing without Bytes", impl.NewRing(impl.Key{Id: 1}), impl.RingResult{Code: impl.ErrMany})
	checkRing(t, "NewRing of empty Bytes", impl.NewRing(impl.Key{Id: 1, Bytes: []byte{}}), impl.RingResult{Code: impl.ErrMany})
}

// differentRings are any rings, right and wrong ones, of which no two are the same.
func differentRings() []impl.Ring {
	turned := ringOf(5, 2, 5, 9)
	turned.Keys[2].Bytes[15] ^= 1
	first := ringOf(5, 2, 5, 9)
	first.Keys[0].Bytes[0] ^= 128
	return []impl.Ring{
		{}, {Primary: 1}, {Primary: math.MinInt64}, {Primary: math.MaxInt64},
		ringOf(5, 5), ringOf(4, 5), ringOf(5, 4), ringOf(0, 0), ringOf(5, 5, 5), ringOf(5, 2, 5), ringOf(5, 5, 2), ringOf(2, 2, 5),
		ringOf(5, 2, 5, 9), ringOf(9, 2, 5, 9), ringOf(5, 9, 5, 2), turned, first, ringOf(5, 2, 5, 9, 10), ringOf(5, 5, 5, 5, 5, 5),
		ringOfKeys(5, sizedKey(5, 15)), ringOfKeys(5, sizedKey(5, 17)), ringOfKeys(5, sizedKey(5, 0)), ringOfKeys(5, sizedKey(6, 0)),
		ringOfKeys(5, sizedKey(5, 2000)), ringOfKeys(0, impl.Key{}), ringOfKeys(0, impl.Key{}, impl.Key{}),
		ringOfKeys(5, impl.Key{Id: 6, Bytes: ringKey(5).Bytes}), ringOfKeys(5, impl.Key{Id: math.MaxInt64}),
	}
}

func TestSameRings(t *testing.T) {
	left, right := differentRings(), differentRings()
	for i, a := range left {
		for j, b := range right {
			if got := impl.SameRings(a, b); got != (i == j) {
				t.Errorf("SameRings(%v, %v) = %v", a, b, got)
			}
		}
	}
}

func TestSameRingsOfNilAndEmpty(t *testing.T) {
	for _, a := range [][]impl.Key{nil, {}, ringOf(1, 1).Keys[:0]} {
		for _, b := range [][]impl.Key{nil, {}} {
			if !impl.SameRings(impl.Ring{Primary: 3, Keys: a}, impl.Ring{Primary: 3, Keys: b}) {
				t.Errorf("SameRings of the keys %#v and %#v is false", a, b)
			}
			if impl.SameRings(impl.Ring{Primary: 3, Keys: a}, impl.Ring{Primary: 4, Keys: b}) {
				t.Errorf("SameRings of the keys %#v and %#v, and other primaries, is true", a, b)
			}
		}
	}
	none, empty := ringOfKeys(1, impl.Key{Id: 1}), ringOfKeys(1, impl.Key{Id: 1, Bytes: []byte{}})
	if !impl.SameRings(none, empty) || !impl.SameRings(empty, none) {
		t.Error("Bytes that are nil and Bytes that are empty are not the same")
	}
	if impl.SameRings(none, ringOfKeys(1, impl.Key{Id: 1, Bytes: []byte{0}})) {
		t.Error("no Bytes and a zero are the same")
	}
}
