package tests

import (
	"math"
	"testing"

	"loop.example/g00725/impl"
)

// wantLetter is what the library's cipher seals by this key, and the head ahead of it.
func wantLetter(t *testing.T, key []byte, l impl.Letter) []byte {
	t.Helper()
	head := wantHead(l.Key, l.Sender, l.Counter)
	sealed := wantSealed(t, sealArguments{key: key, nonce: wantNonce(l.Sender, l.Counter), extra: head, plain: l.Text})
	return append(head, sealed...)
}

// rightLetters have these keys, and all else at its edges.
func rightLetters(keys ...int64) []impl.Letter {
	var out []impl.Letter
	for _, key := range keys {
		for _, sender := range []int64{0, 2, 15} {
			for _, counter := range []int64{0, 1, 256, 1000000000} {
				for _, size := range []int{0, 1, 16, 33, 300} {
					out = append(out, letterOf(key, sender, counter, size))
				}
			}
		}
	}
	return out
}

// wrongRings are rings with a fault, and their codes.
var wrongRings = []struct {
	ring impl.Ring
	code int64
}{
	{impl.Ring{}, impl.ErrMany}, {impl.Ring{Primary: 5}, impl.ErrMany}, {ringOf(1, 1, 2, 3, 4), impl.ErrMany},
	{ringOfKeys(5, sizedKey(5, 15)), impl.ErrMany}, {ringOfKeys(5, ringKey(5), sizedKey(6, 17)), impl.ErrMany},
	{ringOf(0, 0), impl.ErrRange}, {ringOf(5, 5, 256), impl.ErrRange}, {ringOf(5, -1, 5), impl.ErrRange},
	{ringOf(5, 5, 2), impl.ErrForm}, {ringOf(5, 5, 5), impl.ErrForm}, {ringOf(9, 5), impl.ErrNone}, {ringOf(0, 2, 5), impl.ErrNone},
}

// spoilt is a copy of data of which the byte at is turned by mask.
func spoilt(data []byte, at int, mask byte) []byte {
	out := append([]byte{}, data...)
	out[at] ^= mask
	return out
}

func TestSealLetterIsHeadAndSealedText(t *testing.T) {
	r := ringOf(5, 1, 5, 255)
	for _, l := range rightLetters(1, 5, 255) {
		got := impl.SealLetter(r, l)
		checkBlock(t, "SealLetter", l.Text, got, wantLetter(t, ringKey(l.Key).Bytes, l))
		head := impl.HeadOf(l.Key, l.Sender, l.Counter).Bytes
		sealed := impl.SealText(ringKey(l.Key).Bytes, impl.NonceOf(l.Sender, l.Counter).Bytes, head, l.Text).Bytes
		checkBlock(t, "SealLetter", l.Text, got, append(append([]byte{}, head...), sealed...))
		if len(got.Bytes) != impl.HeadSize+len(l.Text)+impl.TagSize {
			t.Errorf("a Text of %d bytes is %d bytes sealed", len(l.Text), len(got.Bytes))
		}
	}
}

func TestSealLetterNeedsNoPrimary(t *testing.T) {
	l := letterOf(5, 3, 44, 20)
	want := wantLetter(t, ringKey(5).Bytes, l)
	for _, r := range []impl.Ring{ringOf(5, 5), ringOf(2, 2, 5), ringOf(9, 5, 9), ringOf(1, 1, 5, 9), ringOf(5, 1, 5, 9)} {
		checkBlock(t, "SealLetter", l.Text, impl.SealLetter(r, l), want)
	}
}

func TestSealLetterWithoutText(t *testing.T) {
	for _, text := range [][]byte{nil, {}} {
		l := impl.Letter{Key: 5, Sender: 1, Counter: 2, Text: text}
		checkBlock(t, "SealLetter", nil, impl.SealLetter(ringOf(5, 5), l), wantLetter(t, ringKey(5).Bytes, l))
	}
}

func TestSealLetterCodes(t *testing.T) {
	right, none := letterOf(5, 3, 44, 20), letterOf(6, 3, 44, 20)
	wrong := []struct {
		letter impl.Letter
		code   int64
	}{
		{letterOf(0, 3, 44, 20), impl.ErrRange}, {letterOf(256, 3, 44, 20), impl.ErrRange}, {letterOf(math.MinInt64, 3, 44, 20), impl.ErrRange},
		{letterOf(5, -1, 44, 20), impl.ErrRange}, {letterOf(5, 16, 44, 20), impl.ErrRange}, {letterOf(5, 3, -1, 20), impl.ErrRange},
		{letterOf(5, 3, 1000000001, 20), impl.ErrRange}, {letterOf(5, 3, math.MaxInt64, 20), impl.ErrRange},
		{letterOf(5, 3, 44, 301), impl.ErrMany}, {letterOf(5, 3, 44, 600), impl.ErrMany}, {letterOf(5, 3, 44, 601), impl.ErrMany},
		{letterOf(5, 16, 44, 301), impl.ErrRange}, {impl.Letter{}, impl.ErrRange},
		// The letter ahead of its key: the Id 6 is not there.
		{letterOf(6, 16, 44, 20), impl.ErrRange}, {letterOf(6, 3, 1000000001, 20), impl.ErrRange}, {letterOf(6, 3, 44, 301), impl.ErrMany},
	}
	for _, row := range wrong {
		checkCode(t, "SealLetter of a wrong letter", impl.SealLetter(ringOf(5, 2, 5), row.letter), row.code)
		for _, ring := range wrongRings {
			checkCode(t, "SealLetter by a wrong ring of a wrong letter", impl.SealLetter(ring.ring, row.letter), ring.code)
		}
	}
	for _, ring := range wrongRings {
		checkCode(t, "SealLetter by a wrong ring", impl.SealLetter(ring.ring, right), ring.code)
		checkCode(t, "SealLetter by a wrong ring and no key", impl.SealLetter(ring.ring, none), ring.code)
	}
	for _, id := range []int64{1, 3, 4, 6, 254, 255} {
		checkCode(t, "SealLetter by no key", impl.SealLetter(ringOf(5, 2, 5, 9), letterOf(id, 3, 44, 20)), impl.ErrNone)
		checkCode(t, "SealLetter by no key", impl.SealLetter(ringOf(5, 5), letterOf(id, 3, 44, 300)), impl.ErrNone)
	}
	if got := impl.SealLetter(ringOf(5, 2, 5), letterOf(5, 3, 44, 300)); got.Code != impl.OK || len(got.Bytes) != 327 {
		t.Errorf("SealLetter of %d bytes: code %d and %d bytes", impl.MaxText, got.Code, len(got.Bytes))
	}
}

func TestSealedLetterIsOpened(t *testing.T) {
	whole := ringOf(5, 1, 5, 255)
	for _, l := range rightLetters(1, 5, 255) {
		sealed := impl.SealLetter(whole, l)
		for _, r := range []impl.Ring{whole, ringOf(l.Key, l.Key), impl.UseKey(whole, l.Key).Ring, ringOf(1, 1, 5, 255), ringOf(255, 1, 5, 255)} {
			got := impl.OpenLetter(r, sealed.Bytes)
			checkLetter(t, "OpenLetter", got, impl.LetterResult{Letter: l})
			if !impl.SameLetters(got.Letter, l) {
				t.Errorf("%v is opened as %v", l, got)
			}
		}
		checkLetter(t, "ReadHead", impl.ReadHead(sealed.Bytes), headLetter(l.Key, l.Sender, l.Counter))
	}
}

func TestAnyRingThatHasTheKeyOpens(t *testing.T) {
	for _, r := range rightRings() {
		for _, id := range []int64{1, 2, 5, 254, 255} {
			l := letterOf(id, 4, 77, 9)
			want := impl.LetterResult{Letter: l}
			if placeOf(r, id) < 0 {
				want = letterCode(impl.ErrNone)
			}
			checkLetter(t, "OpenLetter", impl.OpenLetter(r, wantLetter(t, ringKey(id).Bytes, l)), want)
		}
	}
}

func TestAnotherKeyOfTheSameIdDoesNotOpen(t *testing.T) {
	l := letterOf(5, 4, 77, 9)
	sealed := impl.SealLetter(ringOf(5, 5), l).Bytes
	for bit := range 128 {
		other := impl.Key{Id: 5, Bytes: spoilt(ringKey(5).Bytes, bit/8, 1<<(bit%8))}
		checkLetter(t, "OpenLetter by another key", impl.OpenLetter(ringOfKeys(5, other), sealed), letterCode(impl.ErrSeal))
	}
	// A key with the right Bytes does not open it by another Id.
	twin := impl.Key{Id: 6, Bytes: ringKey(5).Bytes}
	checkLetter(t, "OpenLetter by a twin", impl.OpenLetter(ringOfKeys(6, twin), sealed), letterCode(impl.ErrNone))
	both := ringOfKeys(6, impl.Key{Id: 5, Bytes: ringKey(6).Bytes}, twin)
	checkLetter(t, "OpenLetter by keys that are changed about", impl.OpenLetter(both, sealed), letterCode(impl.ErrSeal))
	// Nor if its head is turned to that Id: that is sealed, too.
	checkLetter(t, "OpenLetter of another Id", impl.OpenLetter(ringOfKeys(6, twin), spoilt(sealed, 1, 5^6)), letterCode(impl.ErrSeal))
}

// wantSpoilt is the code by a ring without a fault of data that nobody sealed: the first that is so, and ErrSeal at the last.
func wantSpoilt(r impl.Ring, data []byte) int64 {
	if len(data) > 327 {
		return impl.ErrMany
	}
	if head := impl.ReadHead(data); head.Code != impl.OK {
		return head.Code
	}
	if placeOf(r, int64(data[1])) < 0 {
		return impl.ErrNone
	}
	return impl.ErrSeal
}

func TestEachBitThatIsTurnedIsTold(t *testing.T) {
	r := ringOf(5, 4, 5, 7)
	for _, size := range []int{0, 1, 16, 40} {
		l := letterOf(5, 3, 1000, size)
		sealed := impl.SealLetter(r, l).Bytes
		seals := 0
		for bit := range 8 * len(sealed) {
			data := spoilt(sealed, bit/8, 1<<(bit%8))
			want := wantSpoilt(r, data)
			checkLetter(t, "OpenLetter of what was turned", impl.OpenLetter(r, data), letterCode(want))
			if want == impl.ErrSeal {
				seals++
			}
		}
		// The text and the tag; of the head 2 bits of the key, 4 of the sender and 30 of the counter stay within what there is.
		if seals != 8*(size+16)+36 {
			t.Errorf("of %d bytes %d bits are asked by the seal", len(sealed), seals)
		}
		checkLetter(t, "OpenLetter of what was not turned", impl.OpenLetter(r, sealed), impl.LetterResult{Letter: l})
	}
}

func TestHeadThatIsTurned(t *testing.T) {
	r := ringOf(5, 4, 5, 7)
	sealed := impl.SealLetter(r, letterOf(5, 3, 1000, 12)).Bytes
	for _, row := range []struct {
		at    int
		value byte
		code  int64
	}{
		{0, 0, impl.ErrForm}, {0, 2, impl.ErrForm}, {0, 255, impl.ErrForm},
		{1, 0, impl.ErrRange}, {1, 6, impl.ErrNone}, {1, 255, impl.ErrNone}, {1, 4, impl.ErrSeal}, {1, 7, impl.ErrSeal},
		{2, 2, impl.ErrSeal}, {2, 0, impl.ErrSeal}, {2, 15, impl.ErrSeal}, {2, 16, impl.ErrRange}, {2, 255, impl.ErrRange},
		{10, 0, impl.ErrSeal}, {9, 0, impl.ErrSeal}, {8, 1, impl.ErrSeal}, {7, 59, impl.ErrSeal}, {7, 60, impl.ErrRange},
		{6, 1, impl.ErrRange}, {3, 1, impl.ErrRange}, {3, 127, impl.ErrRange}, {3, 128, impl.ErrRange}, {3, 255, impl.ErrRange},
	} {
		data := append([]byte{}, sealed...)
		data[row.at] = row.value
		checkLetter(t, "OpenLetter", impl.OpenLetter(r, data), letterCode(row.code))
	}
}

func TestOpenLetterHowManyBytes(t *testing.T) {
	r := ringOf(5, 2, 5)
	right, none := impl.SealLetter(r, letterOf(5, 3, 44, 300)).Bytes, wantHead(6, 3, 44)
	if len(right) != impl.HeadSize+impl.MaxText+impl.TagSize {
		t.Fatalf("the longest letter has %d bytes", len(right))
	}
	for end := range right {
		want := int64(impl.ErrSeal)
		if end < impl.HeadSize {
			want = impl.ErrMany
		}
		checkLetter(t, "OpenLetter of the first ones", impl.OpenLetter(r, right[:end]), letterCode(want))
	}
	checkLetter(t, "OpenLetter of nil", impl.OpenLetter(r, nil), letterCode(impl.ErrMany))
	checkLetter(t, "OpenLetter of all", impl.OpenLetter(r, right), impl.LetterResult{Letter: letterOf(5, 3, 44, 300)})
	for _, more := range []int{1, 2, 16, 1000} {
		// Ahead of whatever is wrong in them.
		for _, data := range [][]byte{right, make([]byte, 327), append(none, make([]byte, 316)...), append(wantHead(0, 16, -1), make([]byte, 316)...)} {
			longer := append(append([]byte{}, data...), make([]byte, more)...)
			checkLetter(t, "OpenLetter of too many", impl.OpenLetter(r, longer), letterCode(impl.ErrMany))
		}
	}
	// Sealed rightly, but with a Text of one byte more than there may be.
	checkLetter(t, "OpenLetter of too much Text", impl.OpenLetter(r, wantLetter(t, ringKey(5).Bytes, letterOf(5, 3, 44, 301))), letterCode(impl.ErrMany))
	checkLetter(t, "OpenLetter of no version", impl.OpenLetter(r, make([]byte, 327)), letterCode(impl.ErrForm))
}

func TestOpenLetterCodes(t *testing.T) {
	r := ringOf(5, 2, 5)
	for _, row := range []struct {
		head []byte
		code int64
	}{
		{headBytes(0, 5, 3, 44), impl.ErrForm}, {headBytes(2, 0, 16, math.MaxUint64), impl.ErrForm}, {headBytes(1, 0, 3, 44), impl.ErrRange},
		{headBytes(1, 5, 16, 44), impl.ErrRange}, {headBytes(1, 5, 3, 1000000001), impl.ErrRange}, {headBytes(1, 5, 3, 1<<63), impl.ErrRange},
		// The head ahead of its key: the Id 6 is not there.
		{headBytes(1, 6, 16, 44), impl.ErrRange}, {headBytes(1, 6, 3, math.MaxUint64), impl.ErrRange},
		{headBytes(1, 6, 3, 44), impl.ErrNone}, {headBytes(1, 255, 3, 44), impl.ErrNone}, {headBytes(1, 5, 3, 44), impl.ErrSeal},
	} {
		// Too few bytes for a tag, just so many, and more.
		for _, more := range []int{0, 1, 15, 16, 17, 100, 316} {
			data := append(append([]byte{}, row.head...), mixedBytes(more, 8)...)
			checkLetter(t, "OpenLetter", impl.OpenLetter(r, data), letterCode(row.code))
			for _, ring := range wrongRings {
				checkLetter(t, "OpenLetter by a wrong ring", impl.OpenLetter(ring.ring, data), letterCode(ring.code))
			}
		}
	}
	right, long := impl.SealLetter(r, letterOf(5, 3, 44, 9)).Bytes, make([]byte, 328)
	for _, ring := range wrongRings {
		for _, data := range [][]byte{nil, right, right[:10], long} {
			checkLetter(t, "OpenLetter by a wrong ring", impl.OpenLetter(ring.ring, data), letterCode(ring.code))
		}
	}
}

func TestOpenLetterAsksHeadAndNonce(t *testing.T) {
	// Sealed by the right key, but with another nonce, or another extra, than the head tells.
	key, text := ringKey(5).Bytes, mixedBytes(20, 4)
	head, nonce := wantHead(5, 3, 44), wantNonce(3, 44)
	for _, row := range []struct {
		nonce, extra []byte
		code         int64
	}{
		{nonce, head, impl.OK}, {nonce, nil, impl.ErrSeal}, {nonce, head[:10], impl.ErrSeal}, {nonce, wantHead(5, 3, 45), impl.ErrSeal},
		{nonce, wantHead(6, 3, 44), impl.ErrSeal}, {nonce, headBytes(2, 5, 3, 44), impl.ErrSeal}, {wantNonce(3, 45), head, impl.ErrSeal},
		{wantNonce(2, 44), head, impl.ErrSeal}, {make([]byte, 12), head, impl.ErrSeal}, {wantNonce(3, 45), wantHead(5, 3, 45), impl.ErrSeal},
	} {
		sealed := wantSealed(t, sealArguments{key: key, nonce: row.nonce, extra: row.extra, plain: text})
		want := letterCode(row.code)
		if row.code == impl.OK {
			want.Letter = impl.Letter{Key: 5, Sender: 3, Counter: 44, Text: text}
		}
		checkLetter(t, "OpenLetter", impl.OpenLetter(ringOf(5, 5), append(wantHead(5, 3, 44), sealed...)), want)
	}
}

func TestLettersOpenThroughTurnsOfTheRing(t *testing.T) {
	// A key is installed, used, and the elder one removed: what either sealed is opened as long as the key is there.
	first := impl.NewRing(ringKey(5)).Ring
	both := impl.InstallKey(first, ringKey(9)).Ring
	used := impl.UseKey(both, 9).Ring
	last := impl.RemoveKey(used, 5).Ring
	elder, newer := letterOf(5, 1, 10, 30), letterOf(9, 1, 11, 30)
	for i, r := range []impl.Ring{first, both, used, last} {
		wantElder, wantNewer := impl.LetterResult{Letter: elder}, impl.LetterResult{Letter: newer}
		if i == 0 {
			wantNewer = letterCode(impl.ErrNone)
		}
		if i == 3 {
			wantElder = letterCode(impl.ErrNone)
		}
		checkLetter(t, "OpenLetter by the elder key", impl.OpenLetter(r, impl.SealLetter(first, elder).Bytes), wantElder)
		checkLetter(t, "OpenLetter by the newer key", impl.OpenLetter(r, impl.SealLetter(last, newer).Bytes), wantNewer)
	}
}
