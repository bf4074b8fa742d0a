package tests

import (
	"crypto/aes"
	"encoding/hex"
	"testing"

	"loop.example/g00725/impl"
)

func fromHex(t *testing.T, text string) []byte {
	t.Helper()
	data, err := hex.DecodeString(text)
	if err != nil {
		t.Fatal(err)
	}
	return data
}

// sampleBlocks are blocks whose bytes are all different, all alike, and one by one another bit alone.
func sampleBlocks() [][]byte {
	rising, falling := make([]byte, 16), make([]byte, 16)
	for i := range rising {
		rising[i], falling[i] = byte(i), byte(255-13*i)
	}
	list := [][]byte{rising, falling, make([]byte, 16)}
	for seed := range 40 {
		list = append(list, mixedBytes(16, 3*seed+1))
	}
	for bit := range 128 {
		block := make([]byte, 16)
		block[bit/8] = 1 << (bit % 8)
		list = append(list, block)
	}
	return list
}

// noBlocks have not sixteen bytes.
func noBlocks() [][]byte {
	list := [][]byte{nil, {}}
	for _, count := range []int{1, 4, 8, 12, 15, 17, 24, 31, 32, 33, 256, 800, 801} {
		list = append(list, mixedBytes(count, 5))
	}
	return list
}

func TestCipherConstants(t *testing.T) {
	if impl.BlockSize != 16 || impl.KeySize != 16 || impl.Rounds != 10 {
		t.Errorf("BlockSize %d, KeySize %d, Rounds %d", impl.BlockSize, impl.KeySize, impl.Rounds)
	}
}

func TestRoundConstant(t *testing.T) {
	for i, want := range []int64{1, 2, 4, 8, 16, 32, 64, 128, 27, 54} {
		if got := impl.RoundConstant(int64(i) + 1); got != (impl.IntResult{Value: want}) {
			t.Errorf("RoundConstant(%d) = %v, want %d", i+1, got, want)
		}
	}
	power := byte(1)
	for i := int64(1); i <= impl.Rounds; i++ {
		if got := impl.RoundConstant(i); got.Value != int64(power) {
			t.Errorf("RoundConstant(%d) = %v, want %d", i, got, power)
		}
		power = longProduct(power, 2)
	}
}

func TestRoundConstantWrongInputs(t *testing.T) {
	for _, i := range append([]int64{0, 11, -1, 12, 255, 256}, farNumbers...) {
		got := impl.RoundConstant(i)
		if i >= 1 && i <= impl.Rounds {
			if got.Code != impl.OK {
				t.Errorf("RoundConstant(%d) = %v, want no code", i, got)
			}
			continue
		}
		if got != (impl.IntResult{Code: impl.ErrRange}) {
			t.Errorf("RoundConstant(%d) = %v, want ErrRange", i, got)
		}
	}
}

// wantSub is SubByte by a search, so that it leans on nothing of the program.
func wantSub(a byte) byte {
	inverse, sum := searchedInverse(a), byte(99)
	for _, step := range []int{0, 4, 5, 6, 7} {
		sum ^= inverse>>step | inverse<<(8-step)
	}
	return sum
}

// wantShifted takes each byte from its row and column.
func wantShifted(block []byte) []byte {
	out := make([]byte, 16)
	for r := range 4 {
		for c := range 4 {
			out[4*c+r] = block[4*((c+r)%4)+r]
		}
	}
	return out
}

// wantMixed writes the four sums of a column out, as the document has them.
func wantMixed(block []byte) []byte {
	var out []byte
	for at := 0; at < 16; at += 4 {
		a, b, c, d := block[at], block[at+1], block[at+2], block[at+3]
		out = append(out,
			longProduct(2, a)^longProduct(3, b)^c^d,
			a^longProduct(2, b)^longProduct(3, c)^d,
			a^b^longProduct(2, c)^longProduct(3, d),
			longProduct(3, a)^b^c^longProduct(2, d))
	}
	return out
}

func checkBlock(t *testing.T, name string, block []byte, got impl.BytesResult, want []byte) {
	t.Helper()
	if got.Code != impl.OK || string(got.Bytes) != string(want) {
		t.Errorf("%s of %x = %d %x, want %x", name, block, got.Code, got.Bytes, want)
	}
}

func TestSubBytesByteByByte(t *testing.T) {
	for first := 0; first < 256; first += 16 {
		block, want := make([]byte, 16), make([]byte, 16)
		for i := range block {
			block[i] = byte(first + i)
			want[i] = wantSub(block[i])
		}
		checkBlock(t, "SubBytes", block, impl.SubBytes(block), want)
	}
	for _, block := range sampleBlocks() {
		want := make([]byte, 16)
		for i, a := range block {
			want[i] = impl.SubByte(a)
		}
		checkBlock(t, "SubBytes", block, impl.SubBytes(block), want)
	}
}

func TestShiftRows(t *testing.T) {
	block := fromHex(t, "000102030405060708090a0b0c0d0e0f")
	checkBlock(t, "ShiftRows", block, impl.ShiftRows(block), fromHex(t, "00050a0f04090e03080d02070c01060b"))
	for _, block := range sampleBlocks() {
		checkBlock(t, "ShiftRows", block, impl.ShiftRows(block), wantShifted(block))
	}
}

func TestMixColumns(t *testing.T) {
	for _, row := range [][2]string{
		{"db135345f20a225c01010101c6c6c6c6", "8e4da1bc9fdc589d01010101c6c6c6c6"},
		{"d4d4d4d52d26314c00000000ffffffff", "d5d5d7d64d7ebdf800000000ffffffff"},
		{"01000000000100000000010000000001", "02010103030201010103020101010302"},
	} {
		block := fromHex(t, row[0])
		checkBlock(t, "MixColumns", block, impl.MixColumns(block), fromHex(t, row[1]))
	}
	for _, block := range sampleBlocks() {
		checkBlock(t, "MixColumns", block, impl.MixColumns(block), wantMixed(block))
	}
}

func TestFourTurnsAreNone(t *testing.T) {
	for name, turn := range map[string]func([]byte) impl.BytesResult{"ShiftRows": impl.ShiftRows, "MixColumns": impl.MixColumns} {
		for _, block := range sampleBlocks() {
			turned := block
			for range 4 {
				turned = turn(turned).Bytes
			}
			if string(turned) != string(block) {
				t.Errorf("four %s of %x are %x", name, block, turned)
			}
		}
		rising := sampleBlocks()[0]
		turned := rising
		for i := range 3 {
			turned = turn(turned).Bytes
			if string(turned) == string(rising) {
				t.Errorf("%d %s of %x are none already", i+1, name, rising)
			}
		}
	}
}

func TestWhatIsNoBlock(t *testing.T) {
	key := mixedBytes(16, 9)
	for _, data := range noBlocks() {
		for name, got := range map[string]impl.BytesResult{
			"SubBytes": impl.SubBytes(data), "ShiftRows": impl.ShiftRows(data), "MixColumns": impl.MixColumns(data),
			"EncryptBlock": impl.EncryptBlock(key, data), "EncryptBlock by no key": impl.EncryptBlock(data, key),
			"EncryptBlock of neither": impl.EncryptBlock(data, data),
		} {
			if got.Code != impl.ErrMany || len(got.Bytes) != 0 {
				t.Errorf("%s of %d bytes = %v, want ErrMany", name, len(data), got)
			}
		}
		if got := impl.KeyWords(data); got.Code != impl.ErrMany || len(got.Words) != 0 {
			t.Errorf("KeyWords of %d bytes = %v, want ErrMany", len(data), got)
		}
	}
	// Both lengths are wrong, each in its own way: together they would be two blocks.
	for _, row := range [][2]int{{15, 17}, {17, 15}, {0, 32}, {32, 0}, {16, 15}, {16, 17}, {15, 16}, {17, 16}} {
		got := impl.EncryptBlock(mixedBytes(row[0], 1), mixedBytes(row[1], 2))
		if got.Code != impl.ErrMany || len(got.Bytes) != 0 {
			t.Errorf("EncryptBlock of %v bytes = %v, want ErrMany", row, got)
		}
	}
}

func TestKeyWordsExample(t *testing.T) {
	words := impl.KeyWords(fromHex(t, "2b7e151628aed2a6abf7158809cf4f3c")).Words
	if len(words) != 44 {
		t.Fatalf("there are %d words", len(words))
	}
	for i, want := range map[int]string{
		0: "2b7e1516", 3: "09cf4f3c", 4: "a0fafe17", 5: "88542cb1", 7: "2a6c7605", 8: "f2c295f2", 36: "ac7766f3", 40: "d014f9a8", 43: "b6630ca6",
	} {
		if got := hex.EncodeToString(words[i]); got != want {
			t.Errorf("word %d is %s, want %s", i, got, want)
		}
	}
}

func TestKeyWordsOneByOne(t *testing.T) {
	for _, key := range sampleBlocks() {
		got := impl.KeyWords(key)
		if got.Code != impl.OK || len(got.Words) != 44 {
			t.Fatalf("KeyWords of %x: code %d and %d words", key, got.Code, len(got.Words))
		}
		for i, word := range got.Words {
			if len(word) != 4 {
				t.Fatalf("KeyWords of %x: word %d has %d bytes", key, i, len(word))
			}
			want := append([]byte{}, key[4*(i%4):4*(i%4)+4]...)
			if i >= 4 {
				want = nextWord(got.Words, i)
			}
			if string(word) != string(want) {
				t.Errorf("KeyWords of %x: word %d is %x, want %x", key, i, word, want)
			}
		}
	}
}

// nextWord is word i by those ahead of it, as the document tells it.
func nextWord(words [][]byte, i int) []byte {
	t := append([]byte{}, words[i-1]...)
	if i%4 == 0 {
		t = []byte{wantSub(t[1]), wantSub(t[2]), wantSub(t[3]), wantSub(t[0])}
		constant := byte(1)
		for range i/4 - 1 {
			constant = longProduct(constant, 2)
		}
		t[0] ^= constant
	}
	for j := range t {
		t[j] ^= words[i-4][j]
	}
	return t
}

func TestEncryptBlockExamples(t *testing.T) {
	for _, row := range [][3]string{
		{"000102030405060708090a0b0c0d0e0f", "00112233445566778899aabbccddeeff", "69c4e0d86a7b0430d8cdb78070b4c55a"},
		{"2b7e151628aed2a6abf7158809cf4f3c", "3243f6a8885a308d313198a2e0370734", "3925841d02dc09fbdc118597196a0b32"},
		{"2b7e151628aed2a6abf7158809cf4f3c", "6bc1bee22e409f96e93d7e117393172a", "3ad77bb40d7a3660a89ecaf32466ef97"},
		{"00000000000000000000000000000000", "00000000000000000000000000000000", "66e94bd4ef8a2c3b884cfa59ca342b2e"},
	} {
		got := impl.EncryptBlock(fromHex(t, row[0]), fromHex(t, row[1]))
		if got.Code != impl.OK || hex.EncodeToString(got.Bytes) != row[2] {
			t.Errorf("EncryptBlock by %s of %s = %d %x, want %s", row[0], row[1], got.Code, got.Bytes, row[2])
		}
	}
}

func TestEncryptBlockAgainstTheLibrary(t *testing.T) {
	blocks := sampleBlocks()
	for i, key := range blocks {
		known, err := aes.NewCipher(key)
		if err != nil {
			t.Fatal(err)
		}
		for _, block := range [][]byte{blocks[0], blocks[(7*i+3)%len(blocks)], key} {
			want := make([]byte, 16)
			known.Encrypt(want, block)
			checkBlock(t, "EncryptBlock", block, impl.EncryptBlock(key, block), want)
		}
	}
}

// TestEncryptBlockStepByStep puts the exported steps together as the document does.
func TestEncryptBlockStepByStep(t *testing.T) {
	for i, block := range sampleBlocks() {
		key := mixedBytes(16, 7*i+2)
		words := impl.KeyWords(key).Words
		roundKey := func(r int) []byte {
			var out []byte
			for _, word := range words[4*r : 4*r+4] {
				out = append(out, word...)
			}
			return out
		}
		b := impl.XorBytes(block, roundKey(0)).Bytes
		for r := 1; r <= 9; r++ {
			b = impl.MixColumns(impl.ShiftRows(impl.SubBytes(b).Bytes).Bytes).Bytes
			b = impl.XorBytes(b, roundKey(r)).Bytes
		}
		b = impl.XorBytes(impl.ShiftRows(impl.SubBytes(b).Bytes).Bytes, roundKey(10)).Bytes
		checkBlock(t, "EncryptBlock", block, impl.EncryptBlock(key, block), b)
	}
}

func TestDifferentBlocksBecomeDifferentOnes(t *testing.T) {
	for _, seed := range []int{0, 1, 50} {
		key := mixedBytes(16, seed)
		from := map[string]string{}
		for i := range 3000 {
			block := mixedBytes(16, 5)
			block[i%16] ^= byte(i >> 4)
			block[(i+5)%16] ^= byte(i)
			got := impl.EncryptBlock(key, block)
			if other, taken := from[string(got.Bytes)]; taken && other != string(block) {
				t.Fatalf("by %x both %x and %x become %x", key, other, block, got.Bytes)
			}
			from[string(got.Bytes)] = string(block)
		}
	}
}
