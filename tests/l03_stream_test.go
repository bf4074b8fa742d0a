package tests

import (
	"crypto/aes"
	"encoding/binary"
	"encoding/hex"
	"testing"

	"loop.example/g00725/impl"
)

// wantCounted reads the last four bytes as a number, which begins anew by itself.
func wantCounted(block []byte) []byte {
	out := append([]byte{}, block...)
	binary.BigEndian.PutUint32(out[12:], binary.BigEndian.Uint32(out[12:])+1)
	return out
}

// counterBlock is a block with this number at its end, behind bytes of which a carry would be seen.
func counterBlock(n uint32) []byte {
	block := mixedBytes(16, 3)
	block[11] = 255
	binary.BigEndian.PutUint32(block[12:], n)
	return block
}

// turningCounters stand at the edges of one, two, three and four bytes.
var turningCounters = []uint32{
	0, 1, 2, 254, 255, 256, 65534, 65535, 65536, 1<<24 - 1, 1 << 24, 1<<31 - 1, 1 << 31, 4294967293, 4294967294, 4294967295,
}

// wantStream lays the masks one behind the other first.
func wantStream(t *testing.T, key []byte, block []byte, data []byte) []byte {
	t.Helper()
	known, err := aes.NewCipher(key)
	if err != nil {
		t.Fatal(err)
	}
	var masks []byte
	for len(masks) < len(data) {
		mask := make([]byte, 16)
		known.Encrypt(mask, block)
		masks = append(masks, mask...)
		block = wantCounted(block)
	}
	return xorOf(data, masks)
}

func TestCountUpExamples(t *testing.T) {
	for _, row := range [][2]string{
		{"00000000000000000000000000000000", "00000000000000000000000000000001"},
		{"000000000000000000000000000000ff", "00000000000000000000000000000100"},
		{"0000000000000000000000000000ffff", "00000000000000000000000000010000"},
		{"00000000000000000000000000ffffff", "00000000000000000000000001000000"},
		{"000000000000000000000000fffffffe", "000000000000000000000000ffffffff"},
		{"000000000000000000000000ffffffff", "00000000000000000000000000000000"},
		{"ffffffffffffffffffffffffffffffff", "ffffffffffffffffffffffff00000000"},
		{"0102030405060708090a0b0c7fffffff", "0102030405060708090a0b0c80000000"},
		{"0102030405060708090a0bffffffffff", "0102030405060708090a0bff00000000"},
	} {
		block := fromHex(t, row[0])
		checkBlock(t, "CountUp", block, impl.CountUp(block), fromHex(t, row[1]))
	}
}

func TestCountUpIsOneMore(t *testing.T) {
	for _, n := range turningCounters {
		block := counterBlock(n)
		got := impl.CountUp(block)
		checkBlock(t, "CountUp", block, got, wantCounted(block))
		if len(got.Bytes) == 16 && string(got.Bytes[:12]) != string(block[:12]) {
			t.Errorf("CountUp of %x turns the bytes ahead of the last four: %x", block, got.Bytes)
		}
	}
	block := counterBlock(4294967295 - 700)
	for range 1400 {
		next := impl.CountUp(block)
		checkBlock(t, "CountUp", block, next, wantCounted(block))
		block = next.Bytes
	}
}

func TestCountUpOfNoBlock(t *testing.T) {
	for _, data := range noBlocks() {
		checkCode(t, "CountUp of no block", impl.CountUp(data), impl.ErrMany)
	}
}

func TestStreamXorExamples(t *testing.T) {
	zero := make([]byte, 16)
	got := impl.StreamXor(zero, zero, make([]byte, 16))
	checkBlock(t, "StreamXor", zero, got, fromHex(t, "66e94bd4ef8a2c3b884cfa59ca342b2e"))
	key := fromHex(t, "2b7e151628aed2a6abf7158809cf4f3c")
	plain := fromHex(t, "6bc1bee22e409f96e93d7e117393172aae2d8a571e03ac9c9eb76fac45af8e51")
	hidden := fromHex(t, "874d6191b620e3261bef6864990db6ce9806f66b7970fdff8617187bb9fffdff")
	count := fromHex(t, "f0f1f2f3f4f5f6f7f8f9fafbfcfdfeff")
	checkBlock(t, "StreamXor", plain, impl.StreamXor(key, count, plain), hidden)
}

func TestStreamXorOfEachLength(t *testing.T) {
	for i, count := range []int{0, 1, 2, 15, 16, 17, 31, 32, 33, 48, 255, 256, 257, 599, impl.MaxPlain} {
		key, block := mixedBytes(16, i), counterBlock(uint32(i))
		for _, data := range [][]byte{mixedBytes(count, 21), make([]byte, count)} {
			got := impl.StreamXor(key, block, data)
			checkBlock(t, "StreamXor", data, got, wantStream(t, key, block, data))
			checkBlock(t, "StreamXor twice", data, impl.StreamXor(key, block, got.Bytes), data)
		}
	}
	for _, data := range [][]byte{nil, {}} {
		checkBlock(t, "StreamXor of nothing", data, impl.StreamXor(mixedBytes(16, 1), mixedBytes(16, 2), data), nil)
	}
}

func TestStreamXorWhereTheCounterBeginsAnew(t *testing.T) {
	key, data := mixedBytes(16, 40), mixedBytes(160, 41)
	for _, n := range turningCounters {
		block := counterBlock(n)
		got := impl.StreamXor(key, block, data)
		checkBlock(t, "StreamXor", data, got, wantStream(t, key, block, data))
		checkBlock(t, "StreamXor twice", data, impl.StreamXor(key, block, got.Bytes), data)
	}
	// Behind the last counter stands the first one with the same bytes ahead of it.
	masks := impl.StreamXor(key, counterBlock(4294967295), make([]byte, 32)).Bytes
	anew := impl.EncryptBlock(key, counterBlock(0)).Bytes
	if len(masks) != 32 || string(masks[16:]) != string(anew) {
		t.Errorf("behind 4294967295 stands %x, want %x", masks, anew)
	}
}

func TestPartIsHiddenAsAPart(t *testing.T) {
	key, data := mixedBytes(16, 50), mixedBytes(100, 51)
	for _, n := range []uint32{7, 4294967294} {
		block := counterBlock(n)
		whole := impl.StreamXor(key, block, data).Bytes
		if len(whole) != len(data) {
			t.Fatalf("of %d bytes %d are hidden", len(data), len(whole))
		}
		for end := range len(data) + 1 {
			checkBlock(t, "StreamXor of a part", data[:end], impl.StreamXor(key, block, data[:end]), whole[:end])
		}
		for at := 0; at <= len(data); at += 16 {
			checkBlock(t, "StreamXor of the rest", data[at:], impl.StreamXor(key, block, data[at:]), whole[at:])
			block = impl.CountUp(block).Bytes
		}
	}
}

func TestStreamXorCodes(t *testing.T) {
	const most = impl.MaxPlain
	for _, row := range []struct {
		key, block, data int
		code             int64
	}{
		{16, 16, 0, impl.OK}, {16, 16, most, impl.OK},
		{16, 16, most + 1, impl.ErrMany}, {16, 16, most + 16, impl.ErrMany}, {16, 16, impl.MaxBytes, impl.ErrMany}, {16, 16, 5000, impl.ErrMany},
		{15, 16, 1, impl.ErrMany}, {17, 16, 1, impl.ErrMany}, {0, 16, 1, impl.ErrMany}, {24, 16, 1, impl.ErrMany}, {32, 16, 1, impl.ErrMany},
		{16, 15, 1, impl.ErrMany}, {16, 17, 1, impl.ErrMany}, {16, 0, 1, impl.ErrMany}, {16, 12, 1, impl.ErrMany}, {16, 32, 1, impl.ErrMany},
		{15, 17, 0, impl.ErrMany}, {17, 15, 0, impl.ErrMany}, {0, 0, 0, impl.ErrMany}, {15, 15, most + 1, impl.ErrMany},
	} {
		got := impl.StreamXor(mixedBytes(row.key, 1), mixedBytes(row.block, 2), mixedBytes(row.data, 3))
		if got.Code != row.code || got.Code != impl.OK && len(got.Bytes) != 0 {
			t.Errorf("StreamXor of %v bytes: %d %s", row, got.Code, hex.EncodeToString(got.Bytes))
		}
	}
	// No bytes to hide: the key and the block are asked nevertheless.
	for _, data := range noBlocks() {
		checkCode(t, "StreamXor by no key", impl.StreamXor(data, mixedBytes(16, 1), nil), impl.ErrMany)
		checkCode(t, "StreamXor of no block", impl.StreamXor(mixedBytes(16, 1), data, nil), impl.ErrMany)
		checkCode(t, "StreamXor of neither", impl.StreamXor(data, data, nil), impl.ErrMany)
	}
}
