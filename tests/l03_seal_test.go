package tests

import (
	"crypto/aes"
	"crypto/cipher"
	"encoding/binary"
	"encoding/hex"
	"testing"

	"loop.example/g00725/impl"
)

// sealArguments are what SealText is told; OpenText is told the same, but for plain.
type sealArguments struct {
	key, nonce, extra, plain []byte
}

// sealOf has lists of so many bytes, by seed others than by another one.
func sealOf(extra int, plain int, seed int) sealArguments {
	return sealArguments{mixedBytes(16, seed), mixedBytes(12, seed+1), mixedBytes(extra, seed+2), mixedBytes(plain, seed+3)}
}

func (a sealArguments) seal() impl.BytesResult {
	return impl.SealText(a.key, a.nonce, a.extra, a.plain)
}

func (a sealArguments) open(sealed []byte) impl.BytesResult {
	return impl.OpenText(a.key, a.nonce, a.extra, sealed)
}

// wantSealed is what the library's cipher seals.
func wantSealed(t *testing.T, a sealArguments) []byte {
	t.Helper()
	block, err := aes.NewCipher(a.key)
	if err != nil {
		t.Fatal(err)
	}
	known, err := cipher.NewGCM(block)
	if err != nil {
		t.Fatal(err)
	}
	return known.Seal(nil, a.nonce, a.plain, a.extra)
}

// sealedLengths are no bytes, parts of blocks and whole ones, and as many as there may be.
var sealedLengths = []int{0, 1, 8, 15, 16, 17, 31, 32, 33, 48, 99, 100, 255, 256, 300, 592, 599, 600}

func TestSealTextExamples(t *testing.T) {
	zero := make([]byte, 16)
	for _, row := range []struct {
		key, nonce, extra, plain, sealed string
	}{
		{"00000000000000000000000000000000", "000000000000000000000000", "", "", "58e2fccefa7e3061367f1d57a4e7455a"},
		{
			"00000000000000000000000000000000", "000000000000000000000000", "", hex.EncodeToString(zero),
			"0388dace60b6a392f328c2b971b2fe78ab6e47d42cec13bdf53a67b21257bddf",
		},
		{
			"feffe9928665731c6d6a8f9467308308", "cafebabefacedbaddecaf888", "feedfacedeadbeeffeedfacedeadbeefabaddad2",
			"d9313225f88406e5a55909c5aff5269a86a7a9531534f7da2e4c303d8a318a721c3c0c95956809532fcf0e2449a6b525b16aedf5aa0de657ba637b39",
			"42831ec2217774244b7221b784d0d49ce3aa212f2c02a4e035c17e2329aca12e21d514b25466931c7d8f6a5aac84aa051ba30b396a0aac973d58e091" +
				"5bc94fbc3221a5db94fae95ae7121a47",
		},
	} {
		a := sealArguments{fromHex(t, row.key), fromHex(t, row.nonce), fromHex(t, row.extra), fromHex(t, row.plain)}
		checkBlock(t, "SealText", a.plain, a.seal(), fromHex(t, row.sealed))
		checkBlock(t, "OpenText", a.plain, a.open(fromHex(t, row.sealed)), a.plain)
	}
}

func TestSealedIsOpened(t *testing.T) {
	for i, extra := range sealedLengths {
		if extra > impl.MaxExtra {
			break
		}
		for j, plain := range sealedLengths {
			a := sealOf(extra, plain, 17*i+j)
			sealed := a.seal()
			checkBlock(t, "SealText", a.plain, sealed, wantSealed(t, a))
			checkBlock(t, "OpenText", a.plain, a.open(sealed.Bytes), a.plain)
		}
	}
}

// TestSealTextPieceByPiece puts the exported functions together as the document does.
func TestSealTextPieceByPiece(t *testing.T) {
	for _, row := range [][2]int{{0, 0}, {0, 5}, {5, 0}, {16, 16}, {17, 31}, {100, 600}} {
		a := sealOf(row[0], row[1], 60)
		j := append(append([]byte{}, a.nonce...), 0, 0, 0, 1)
		c := impl.StreamXor(a.key, impl.CountUp(j).Bytes, a.plain).Bytes
		var data []byte
		for _, piece := range [][]byte{a.extra, c} {
			data = append(data, piece...)
			data = append(data, make([]byte, (16-len(piece)%16)%16)...)
		}
		data = binary.BigEndian.AppendUint64(data, uint64(8*len(a.extra)))
		data = binary.BigEndian.AppendUint64(data, uint64(8*len(c)))
		h := impl.EncryptBlock(a.key, make([]byte, 16)).Bytes
		tag := impl.XorBytes(impl.EncryptBlock(a.key, j).Bytes, impl.HashAll(h, data).Bytes).Bytes
		checkBlock(t, "SealText", a.plain, a.seal(), append(append([]byte{}, c...), tag...))
	}
}

func TestNilAndEmptyAreSealedAlike(t *testing.T) {
	key, nonce := mixedBytes(16, 1), mixedBytes(12, 2)
	want := wantSealed(t, sealArguments{key: key, nonce: nonce})
	for _, extra := range [][]byte{nil, {}} {
		for _, plain := range [][]byte{nil, {}} {
			checkBlock(t, "SealText of nothing", nil, impl.SealText(key, nonce, extra, plain), want)
		}
		checkBlock(t, "OpenText of nothing", nil, impl.OpenText(key, nonce, extra, want), nil)
	}
}

// checkEachBit turns each bit of data for itself, and asks each time.
func checkEachBit(t *testing.T, name string, data []byte, open func() impl.BytesResult) {
	t.Helper()
	for bit := range 8 * len(data) {
		data[bit/8] ^= 1 << (bit % 8)
		if got := open(); got.Code != impl.ErrSeal || len(got.Bytes) != 0 {
			t.Errorf("bit %d of %s is turned: %v, want ErrSeal", bit, name, got)
		}
		data[bit/8] ^= 1 << (bit % 8)
	}
}

func TestWhateverIsTurnedIsTold(t *testing.T) {
	for i, row := range [][2]int{{0, 0}, {0, 16}, {11, 0}, {11, 37}, {16, 32}} {
		a := sealOf(row[0], row[1], 70+i)
		sealed := append([]byte{}, a.seal().Bytes...)
		if len(sealed) != row[1]+impl.TagSize {
			t.Fatalf("of %v bytes %d are sealed", row, len(sealed))
		}
		open := func() impl.BytesResult { return a.open(sealed) }
		checkEachBit(t, "the tag", sealed[row[1]:], open)
		checkEachBit(t, "the rest", sealed[:row[1]], open)
		checkEachBit(t, "extra", a.extra, open)
		checkEachBit(t, "the nonce", a.nonce, open)
		checkEachBit(t, "the key", a.key, open)
		checkBlock(t, "OpenText of what was turned back", a.plain, open(), a.plain)
	}
}

func TestNoOtherTagOpens(t *testing.T) {
	a := sealOf(11, 20, 80)
	sealed := a.seal().Bytes
	for seed := range 500 {
		other := append(append([]byte{}, sealed[:20]...), mixedBytes(16, seed)...)
		checkCode(t, "OpenText by another tag", a.open(other), impl.ErrSeal)
	}
	for _, tag := range [][]byte{make([]byte, 16), sealOf(11, 20, 81).seal().Bytes[20:], sealOf(11, 0, 80).seal().Bytes} {
		checkCode(t, "OpenText by another tag", a.open(append(append([]byte{}, sealed[:20]...), tag...)), impl.ErrSeal)
	}
}

func TestWhatIsCutOrMovedIsTold(t *testing.T) {
	a := sealOf(20, 40, 90)
	sealed := a.seal().Bytes
	for end := range len(sealed) {
		checkCode(t, "OpenText of the first ones", a.open(sealed[:end]), impl.ErrSeal)
		checkCode(t, "OpenText of the last ones", a.open(sealed[end+1:]), impl.ErrSeal)
	}
	checkCode(t, "OpenText of one more", a.open(append(append([]byte{}, sealed...), 0)), impl.ErrSeal)
	checkCode(t, "OpenText behind one more", a.open(append([]byte{0}, sealed...)), impl.ErrSeal)
	// The zeros that fill a block, and the border between extra and what is sealed, are seen by the lengths.
	longer := a
	longer.extra = append(append([]byte{}, a.extra...), 0)
	checkCode(t, "OpenText with a zero behind extra", longer.open(sealed), impl.ErrSeal)
	moved := a
	moved.extra = append(append([]byte{}, a.extra...), sealed[0])
	checkCode(t, "OpenText with a byte moved to extra", moved.open(sealed[1:]), impl.ErrSeal)
	whole := sealOf(16, 32, 91)
	sealed = whole.seal().Bytes
	whole.extra = append(append([]byte{}, whole.extra...), sealed[:16]...)
	checkCode(t, "OpenText with a block moved to extra", whole.open(sealed[16:]), impl.ErrSeal)
}

func TestSealTextCodes(t *testing.T) {
	const plain, extra = impl.MaxPlain, impl.MaxExtra
	for _, row := range []struct {
		key, nonce, extra, plain int
		code                     int64
	}{
		{16, 12, 0, 0, impl.OK}, {16, 12, extra, plain, impl.OK}, {16, 12, extra, 0, impl.OK}, {16, 12, 0, plain, impl.OK},
		{16, 12, extra + 1, 0, impl.ErrMany}, {16, 12, 0, plain + 1, impl.ErrMany}, {16, 12, extra + 1, plain + 1, impl.ErrMany},
		{16, 12, 5000, 0, impl.ErrMany}, {16, 12, 0, 5000, impl.ErrMany}, {16, 12, 0, plain + impl.TagSize, impl.ErrMany},
		{15, 12, 0, 0, impl.ErrMany}, {17, 12, 0, 0, impl.ErrMany}, {0, 12, 0, 0, impl.ErrMany}, {32, 12, 0, 0, impl.ErrMany},
		{16, 11, 0, 0, impl.ErrMany}, {16, 13, 0, 0, impl.ErrMany}, {16, 0, 0, 0, impl.ErrMany}, {16, 16, 0, 0, impl.ErrMany},
		{12, 16, 0, 0, impl.ErrMany}, {0, 0, 0, 0, impl.ErrMany}, {15, 13, extra + 1, plain + 1, impl.ErrMany},
	} {
		got := impl.SealText(mixedBytes(row.key, 1), mixedBytes(row.nonce, 2), mixedBytes(row.extra, 3), mixedBytes(row.plain, 4))
		if got.Code != row.code || got.Code != impl.OK && len(got.Bytes) != 0 || got.Code == impl.OK && len(got.Bytes) != row.plain+impl.TagSize {
			t.Errorf("SealText of %v bytes: code %d and %d bytes", row, got.Code, len(got.Bytes))
		}
	}
}

func TestOpenTextCodes(t *testing.T) {
	const extra, sealed = impl.MaxExtra, impl.MaxPlain + impl.TagSize
	for _, row := range []struct {
		key, nonce, extra, sealed int
		code                      int64
	}{
		// Fewer bytes than a tag has: there is no plain of which that would be the seal.
		{16, 12, 0, 0, impl.ErrSeal}, {16, 12, 0, 1, impl.ErrSeal}, {16, 12, extra, 15, impl.ErrSeal},
		{16, 12, 0, 16, impl.ErrSeal}, {16, 12, 0, 17, impl.ErrSeal}, {16, 12, extra, sealed, impl.ErrSeal},
		{16, 12, 0, sealed + 1, impl.ErrMany}, {16, 12, 0, impl.MaxBytes, impl.ErrMany}, {16, 12, 0, 5000, impl.ErrMany},
		{16, 12, extra + 1, sealed, impl.ErrMany}, {16, 12, extra + 1, sealed + 1, impl.ErrMany},
		// ErrMany is named first: it is the answer where sealed was not sealed so, too.
		{15, 12, 0, 16, impl.ErrMany}, {17, 12, 0, 3, impl.ErrMany}, {0, 12, 0, 0, impl.ErrMany}, {32, 12, 0, 15, impl.ErrMany},
		{16, 11, 0, 16, impl.ErrMany}, {16, 13, 0, 0, impl.ErrMany}, {16, 0, 0, 0, impl.ErrMany}, {16, 16, 0, 15, impl.ErrMany},
		{16, 12, extra + 1, 0, impl.ErrMany}, {16, 12, 5000, 15, impl.ErrMany}, {0, 0, 0, 0, impl.ErrMany}, {12, 16, 0, 16, impl.ErrMany},
	} {
		got := impl.OpenText(mixedBytes(row.key, 1), mixedBytes(row.nonce, 2), mixedBytes(row.extra, 3), mixedBytes(row.sealed, 4))
		if got.Code != row.code || len(got.Bytes) != 0 {
			t.Errorf("OpenText of %v bytes: code %d and %d bytes", row, got.Code, len(got.Bytes))
		}
	}
	checkCode(t, "OpenText of nil", impl.OpenText(mixedBytes(16, 1), mixedBytes(12, 2), nil, nil), impl.ErrSeal)
	checkCode(t, "OpenText of nothing but nil", impl.OpenText(nil, nil, nil, nil), impl.ErrMany)
	checkCode(t, "SealText of nothing but nil", impl.SealText(nil, nil, nil, nil), impl.ErrMany)
}

func TestWhatIsTooLongIsNotOpened(t *testing.T) {
	// Sealed rightly, but of one byte more than there may be.
	for _, row := range [][2]int{{0, impl.MaxPlain + 1}, {impl.MaxExtra + 1, 0}, {impl.MaxExtra + 1, impl.MaxPlain + 1}} {
		a := sealOf(row[0], row[1], 95)
		checkCode(t, "OpenText", a.open(wantSealed(t, a)), impl.ErrMany)
	}
}
