package tests

import (
	"math/big"
	"testing"

	"loop.example/g00725/impl"
)

// polynomialOf has bit n where the block has the power n, as the document counts them.
func polynomialOf(block []byte) *big.Int {
	p := new(big.Int)
	for i, b := range block {
		for j := range 8 {
			p.SetBit(p, 8*i+j, uint(b>>(7-j)&1))
		}
	}
	return p
}

func blockOfPolynomial(p *big.Int) []byte {
	block := make([]byte, 16)
	for power := range 128 {
		block[power/8] |= byte(p.Bit(power)) << (7 - power%8)
	}
	return block
}

// wantProduct works the whole product out first, then what the polynomial of the powers 128, 7, 2, 1 and 0 leaves of it.
func wantProduct(a []byte, b []byte) []byte {
	p, q, long, divisor := polynomialOf(a), polynomialOf(b), new(big.Int), new(big.Int)
	for power := range 128 {
		if q.Bit(power) == 1 {
			long.Xor(long, new(big.Int).Lsh(p, uint(power)))
		}
	}
	for _, power := range []int{128, 7, 2, 1, 0} {
		divisor.SetBit(divisor, power, 1)
	}
	for power := 254; power >= 128; power-- {
		if long.Bit(power) == 1 {
			long.Xor(long, new(big.Int).Lsh(divisor, uint(power-128)))
		}
	}
	return blockOfPolynomial(long)
}

// powerBlock is the element of one power alone.
func powerBlock(power int) []byte {
	return blockOfPolynomial(new(big.Int).Lsh(big.NewInt(1), uint(power)))
}

func xorOf(a []byte, b []byte) []byte {
	out := make([]byte, len(a))
	for i := range out {
		out[i] = a[i] ^ b[i]
	}
	return out
}

func checkCode(t *testing.T, name string, got impl.BytesResult, code int64) {
	t.Helper()
	if got.Code != code {
		t.Errorf("%s: code %d, want %d", name, got.Code, code)
	}
	if got.Code != impl.OK && len(got.Bytes) != 0 {
		t.Errorf("%s: bytes stand beside the code %d", name, got.Code)
	}
}

func TestSealConstants(t *testing.T) {
	if impl.NonceSize != 12 || impl.TagSize != 16 || impl.MaxPlain != 600 || impl.MaxExtra != 100 {
		t.Errorf("NonceSize %d, TagSize %d, MaxPlain %d, MaxExtra %d", impl.NonceSize, impl.TagSize, impl.MaxPlain, impl.MaxExtra)
	}
}

func TestGroupTimesExamples(t *testing.T) {
	for _, row := range [][3]string{
		// The power 127 times the power 1 is the power 128: what that leaves is told.
		{"00000000000000000000000000000001", "40000000000000000000000000000000", "e1000000000000000000000000000000"},
		{"00000000000000000000000000000001", "00000000000000000000000000000001", "e6080000000000000000000000000003"},
		// From the last power of one half to the first one of the other.
		{"00000000000000010000000000000000", "40000000000000000000000000000000", "00000000000000008000000000000000"},
		{"40000000000000000000000000000000", "40000000000000000000000000000000", "20000000000000000000000000000000"},
		{"0388dace60b6a392f328c2b971b2fe78", "66e94bd4ef8a2c3b884cfa59ca342b2e", "5e2ec746917062882c85b0685353deb7"},
	} {
		a, b, want := fromHex(t, row[0]), fromHex(t, row[1]), fromHex(t, row[2])
		checkBlock(t, "GroupTimes", a, impl.GroupTimes(a, b), want)
		checkBlock(t, "GroupTimes", b, impl.GroupTimes(b, a), want)
	}
}

func TestGroupTimesOfOneAndNone(t *testing.T) {
	one, none := make([]byte, 16), make([]byte, 16)
	one[0] = 128
	for _, a := range sampleBlocks() {
		checkBlock(t, "GroupTimes by one", a, impl.GroupTimes(a, one), a)
		checkBlock(t, "one by GroupTimes", a, impl.GroupTimes(one, a), a)
		checkBlock(t, "GroupTimes by none", a, impl.GroupTimes(a, none), none)
		checkBlock(t, "none by GroupTimes", a, impl.GroupTimes(none, a), none)
	}
}

func TestGroupTimesOfEachPower(t *testing.T) {
	for i := range 128 {
		for j := range 128 {
			a, b := powerBlock(i), powerBlock(j)
			checkBlock(t, "GroupTimes", a, impl.GroupTimes(a, b), wantProduct(a, b))
			if i+j < 128 {
				checkBlock(t, "GroupTimes", a, impl.GroupTimes(a, b), powerBlock(i+j))
			}
		}
	}
}

func TestGroupTimesHoldsBothWays(t *testing.T) {
	blocks := sampleBlocks()
	for i, a := range blocks {
		b, c := blocks[(5*i+2)%len(blocks)], mixedBytes(16, 11*i+4)
		product := impl.GroupTimes(a, b)
		checkBlock(t, "GroupTimes", a, product, wantProduct(a, b))
		checkBlock(t, "GroupTimes the other way", a, impl.GroupTimes(b, a), product.Bytes)
		checkBlock(t, "GroupTimes", a, impl.GroupTimes(a, c), wantProduct(a, c))
		left := impl.GroupTimes(product.Bytes, c)
		checkBlock(t, "GroupTimes of three", a, impl.GroupTimes(a, impl.GroupTimes(b, c).Bytes), left.Bytes)
	}
}

func TestGroupTimesOfSums(t *testing.T) {
	blocks := sampleBlocks()
	for i, a := range blocks {
		b, c := blocks[(3*i+1)%len(blocks)], mixedBytes(16, 7*i+9)
		sum := xorOf(impl.GroupTimes(a, b).Bytes, impl.GroupTimes(a, c).Bytes)
		checkBlock(t, "GroupTimes of a sum", a, impl.GroupTimes(a, xorOf(b, c)), sum)
		checkBlock(t, "a sum by GroupTimes", a, impl.GroupTimes(xorOf(b, c), a), sum)
	}
}

func TestGroupTimesOfNoBlock(t *testing.T) {
	block := mixedBytes(16, 6)
	for _, data := range noBlocks() {
		checkCode(t, "GroupTimes of no block", impl.GroupTimes(data, block), impl.ErrMany)
		checkCode(t, "GroupTimes by no block", impl.GroupTimes(block, data), impl.ErrMany)
		checkCode(t, "GroupTimes of neither", impl.GroupTimes(data, data), impl.ErrMany)
	}
	checkCode(t, "GroupTimes of 15 and 17", impl.GroupTimes(mixedBytes(15, 1), mixedBytes(17, 1)), impl.ErrMany)
	checkCode(t, "GroupTimes of 17 and 15", impl.GroupTimes(mixedBytes(17, 1), mixedBytes(15, 1)), impl.ErrMany)
}

// wantHash goes block by block, as the document tells it.
func wantHash(h []byte, data []byte) []byte {
	sum := make([]byte, 16)
	for at := 0; at < len(data); at += 16 {
		sum = wantProduct(xorOf(sum, data[at:at+16]), h)
	}
	return sum
}

func TestHashAllBlockByBlock(t *testing.T) {
	h := fromHex(t, "66e94bd4ef8a2c3b884cfa59ca342b2e")
	for _, count := range []int{0, 16, 32, 48, 64, 160, 784, impl.MaxBytes} {
		for _, data := range [][]byte{mixedBytes(count, 13), make([]byte, count)} {
			checkBlock(t, "HashAll", data, impl.HashAll(h, data), wantHash(h, data))
		}
	}
	for i, h := range sampleBlocks() {
		data := mixedBytes(16*(i%5), i)
		checkBlock(t, "HashAll", data, impl.HashAll(h, data), wantHash(h, data))
	}
}

func TestHashAllExamples(t *testing.T) {
	h := fromHex(t, "66e94bd4ef8a2c3b884cfa59ca342b2e")
	one, none := make([]byte, 16), make([]byte, 16)
	one[0] = 128
	checkBlock(t, "HashAll of nil", h, impl.HashAll(h, nil), none)
	checkBlock(t, "HashAll of nothing", h, impl.HashAll(h, []byte{}), none)
	checkBlock(t, "HashAll of one", h, impl.HashAll(h, one), h)
	checkBlock(t, "HashAll by one", h, impl.HashAll(one, h), h)
	checkBlock(t, "HashAll by one twice", h, impl.HashAll(one, append(append([]byte{}, h...), h...)), none)
	data := fromHex(t, "0388dace60b6a392f328c2b971b2fe7800000000000000000000000000000080")
	checkBlock(t, "HashAll of two blocks", data, impl.HashAll(h, data), fromHex(t, "f38cbb1ad69223dcc3457ae5b6b0f885"))
	// Zeros ahead turn nothing, zeros behind do.
	ahead, behind := append(make([]byte, 16), data...), append(append([]byte{}, data...), none...)
	checkBlock(t, "HashAll behind zeros", data, impl.HashAll(h, ahead), fromHex(t, "f38cbb1ad69223dcc3457ae5b6b0f885"))
	if string(impl.HashAll(h, behind).Bytes) == string(impl.HashAll(h, data).Bytes) {
		t.Error("HashAll does not see a block of zeros behind the others")
	}
}

func TestHashAllCodes(t *testing.T) {
	const most = impl.MaxBytes
	for _, row := range []struct {
		h, data int
		code    int64
	}{
		{16, 0, impl.OK}, {16, 16, impl.OK}, {16, most, impl.OK},
		{16, most + 1, impl.ErrMany}, {16, most + 16, impl.ErrMany}, {16, 5000, impl.ErrMany},
		{16, 1, impl.ErrForm}, {16, 15, impl.ErrForm}, {16, 17, impl.ErrForm}, {16, 31, impl.ErrForm}, {16, most - 1, impl.ErrForm},
		{15, 0, impl.ErrMany}, {17, 0, impl.ErrMany}, {0, 0, impl.ErrMany}, {32, 32, impl.ErrMany},
		// ErrMany is named first: it is the answer where data are not whole blocks, too.
		{15, 16, impl.ErrMany}, {17, 15, impl.ErrMany}, {0, 1, impl.ErrMany}, {15, most + 1, impl.ErrMany}, {0, most + 16, impl.ErrMany},
	} {
		got := impl.HashAll(mixedBytes(row.h, 8), mixedBytes(row.data, 9))
		if got.Code != row.code || got.Code != impl.OK && len(got.Bytes) != 0 || got.Code == impl.OK && len(got.Bytes) != 16 {
			t.Errorf("HashAll by %d of %d bytes: %v, want the code %d", row.h, row.data, got, row.code)
		}
	}
	for _, data := range noBlocks() {
		checkCode(t, "HashAll by no block", impl.HashAll(data, make([]byte, 32)), impl.ErrMany)
	}
	checkCode(t, "HashAll by nil of nil", impl.HashAll(nil, nil), impl.ErrMany)
}
