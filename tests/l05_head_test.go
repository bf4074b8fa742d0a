package tests

import (
	"encoding/binary"
	"fmt"
	"math"
	"testing"

	"loop.example/g00725/impl"
)

// senders and counters are the edges of what each may be, and as far out as an int64 can tell; keyIds are those of a key.
var senders = []int64{
	math.MinInt64, math.MinInt64 + 1, -1 << 32, -256, -241, -1, 0, 1, 2, 7, 14, 15, 16, 17, 255, 256, 257, 271,
	1<<31 - 1, 1 << 32, 1<<32 + 1, math.MaxInt64 - 1, math.MaxInt64,
}

var counters = []int64{
	math.MinInt64, math.MinInt64 + 1, -1 << 32, -1000000000, -1, 0, 1, 2, 255, 256, 65535, 65536, 999999999, 1000000000,
	1000000001, 1<<31 - 1, 1 << 31, 1 << 32, 1<<32 + 1, 1 << 62, math.MaxInt64 - 1, math.MaxInt64,
}

func isRightSender(n int64) bool {
	return 0 <= n && n <= 15
}

func isRightCounter(n int64) bool {
	return 0 <= n && n <= 1000000000
}

// letterOf has a Text of so many bytes.
func letterOf(key int64, sender int64, counter int64, size int) impl.Letter {
	return impl.Letter{Key: key, Sender: sender, Counter: counter, Text: mixedBytes(size, int(sender+counter)%50)}
}

// wantLetterFault asks code by code, as the document names them.
func wantLetterFault(l impl.Letter) int64 {
	switch {
	case !isRightId(l.Key), !isRightSender(l.Sender), !isRightCounter(l.Counter):
		return impl.ErrRange
	case len(l.Text) > 300:
		return impl.ErrMany
	}
	return impl.OK
}

func wantNonce(sender int64, counter int64) []byte {
	out := binary.BigEndian.AppendUint32(nil, uint32(sender))
	return binary.BigEndian.AppendUint64(out, uint64(counter))
}

// headBytes has the numbers as they are told, right ones or not.
func headBytes(version byte, key byte, sender byte, counter uint64) []byte {
	return binary.BigEndian.AppendUint64([]byte{version, key, sender}, counter)
}

func wantHead(key int64, sender int64, counter int64) []byte {
	return headBytes(1, byte(key), byte(sender), uint64(counter))
}

// letterText tells all fields; an empty Text and nil are told alike.
func letterText(l impl.Letter) string {
	return fmt.Sprint(l.Key, l.Sender, l.Counter, l.Text)
}

func checkLetter(t *testing.T, name string, got impl.LetterResult, want impl.LetterResult) {
	t.Helper()
	if got.Code != want.Code || letterText(got.Letter) != letterText(want.Letter) {
		t.Errorf("%s: %v, want %v", name, got, want)
	}
}

func checkLetterFault(t *testing.T, l impl.Letter, code int64) {
	t.Helper()
	if got := impl.LetterFault(l); got != code {
		t.Errorf("LetterFault of %d, %d, %d and %d bytes = %d, want %d", l.Key, l.Sender, l.Counter, len(l.Text), got, code)
	}
}

func TestEnvelopeConstants(t *testing.T) {
	got := [5]int64{impl.Version, impl.HeadSize, impl.MaxSender, impl.MaxCounter, impl.MaxText}
	if got != [5]int64{1, 11, 15, 1000000000, 300} {
		t.Errorf("the constants are %v", got)
	}
}

func TestLetterFaultOfEachNumber(t *testing.T) {
	for _, row := range []struct {
		key, sender, counter int64
		code                 int64
	}{
		{0, 3, 5, impl.ErrRange}, {1, 3, 5, impl.OK}, {impl.MaxKeyId, 3, 5, impl.OK}, {impl.MaxKeyId + 1, 3, 5, impl.ErrRange},
		{-1, 3, 5, impl.ErrRange}, {math.MinInt64, 3, 5, impl.ErrRange}, {math.MaxInt64, 3, 5, impl.ErrRange},
		{9, -1, 5, impl.ErrRange}, {9, 0, 5, impl.OK}, {9, impl.MaxSender, 5, impl.OK}, {9, impl.MaxSender + 1, 5, impl.ErrRange},
		{9, math.MinInt64, 5, impl.ErrRange}, {9, math.MaxInt64, 5, impl.ErrRange},
		{9, 3, -1, impl.ErrRange}, {9, 3, 0, impl.OK}, {9, 3, impl.MaxCounter, impl.OK}, {9, 3, impl.MaxCounter + 1, impl.ErrRange},
		{9, 3, math.MinInt64, impl.ErrRange}, {9, 3, math.MaxInt64, impl.ErrRange},
		// The bounds of one number are not those of another one.
		{16, 3, 5, impl.OK}, {9, 3, 256, impl.OK}, {9, 255, 5, impl.ErrRange}, {1000, 3, 5, impl.ErrRange},
	} {
		for _, size := range []int{0, 1, 300} {
			checkLetterFault(t, letterOf(row.key, row.sender, row.counter, size), row.code)
		}
	}
	checkLetterFault(t, impl.Letter{}, impl.ErrRange)
	checkLetterFault(t, impl.Letter{Key: 1}, impl.OK)
}

func TestLetterFaultOfText(t *testing.T) {
	for _, size := range []int{0, 1, 16, 299, 300, 301, 302, 600, 601, 5000} {
		want := int64(impl.OK)
		if size > 300 {
			want = impl.ErrMany
		}
		checkLetterFault(t, letterOf(1, 0, 0, size), want)
		checkLetterFault(t, letterOf(255, 15, 1000000000, size), want)
	}
	for _, text := range [][]byte{nil, {}, make([]byte, 0, 400), make([]byte, 300, 400)} {
		checkLetterFault(t, impl.Letter{Key: 1, Text: text}, impl.OK)
	}
}

func TestLetterFaultRangeAheadOfMany(t *testing.T) {
	for _, l := range []impl.Letter{
		letterOf(0, 0, 0, 301), letterOf(256, 0, 0, 301), letterOf(1, -1, 0, 301), letterOf(1, 16, 0, 301),
		letterOf(1, 0, -1, 301), letterOf(1, 0, 1000000001, 301), letterOf(0, 16, -1, 5000),
	} {
		checkLetterFault(t, l, impl.ErrRange)
	}
}

func TestLetterFaultOfAllEdges(t *testing.T) {
	short, long := mixedBytes(300, 1), mixedBytes(301, 1)
	for _, key := range keyIds {
		for _, sender := range senders {
			for _, counter := range counters {
				for _, text := range [][]byte{nil, short, long} {
					l := impl.Letter{Key: key, Sender: sender, Counter: counter, Text: text}
					if got, want := impl.LetterFault(l), wantLetterFault(l); got != want {
						t.Fatalf("LetterFault of %d, %d, %d and %d bytes = %d, want %d", key, sender, counter, len(text), got, want)
					}
				}
			}
		}
	}
}

func TestHeadAndNonceExamples(t *testing.T) {
	for _, row := range []struct {
		key, sender, counter int64
		head, nonce          string
	}{
		{1, 2, 3, "0101020000000000000003", "000000020000000000000003"},
		{3, 2, 7, "0103020000000000000007", "000000020000000000000007"},
		{1, 0, 0, "0101000000000000000000", "000000000000000000000000"},
		{255, 15, 1000000000, "01ff0f000000003b9aca00", "0000000f000000003b9aca00"},
		{16, 10, 66051, "01100a0000000000010203", "0000000a0000000000010203"},
	} {
		checkBlock(t, "HeadOf", nil, impl.HeadOf(row.key, row.sender, row.counter), fromHex(t, row.head))
		checkBlock(t, "NonceOf", nil, impl.NonceOf(row.sender, row.counter), fromHex(t, row.nonce))
	}
}

func TestNonceOfAllEdges(t *testing.T) {
	for _, sender := range senders {
		for _, counter := range counters {
			got := impl.NonceOf(sender, counter)
			if !isRightSender(sender) || !isRightCounter(counter) {
				checkCode(t, fmt.Sprint("NonceOf of ", sender, counter), got, impl.ErrRange)
				continue
			}
			checkBlock(t, "NonceOf", nil, got, wantNonce(sender, counter))
			if len(got.Bytes) != impl.NonceSize {
				t.Errorf("the nonce of %d and %d has %d bytes", sender, counter, len(got.Bytes))
			}
		}
	}
}

func TestHeadOfAllEdges(t *testing.T) {
	for _, key := range keyIds {
		for _, sender := range senders {
			for _, counter := range counters {
				got := impl.HeadOf(key, sender, counter)
				if !isRightId(key) || !isRightSender(sender) || !isRightCounter(counter) {
					checkCode(t, fmt.Sprint("HeadOf of ", key, sender, counter), got, impl.ErrRange)
					continue
				}
				checkBlock(t, "HeadOf", nil, got, wantHead(key, sender, counter))
				if len(got.Bytes) != impl.HeadSize {
					t.Errorf("the head of %d, %d and %d has %d bytes", key, sender, counter, len(got.Bytes))
				}
			}
		}
	}
}

func TestDifferentNumbersMakeDifferentNonces(t *testing.T) {
	var numbers []int64
	for n := range int64(300) {
		numbers = append(numbers, n)
	}
	for shift := range 22 {
		numbers = append(numbers, 256<<shift+44, 1000000000-1<<shift)
	}
	nonces, heads := map[string][2]int64{}, map[string][3]int64{}
	for sender := range int64(impl.MaxSender + 1) {
		for _, counter := range numbers {
			nonce := string(impl.NonceOf(sender, counter).Bytes)
			if other, there := nonces[nonce]; there || nonce == "" {
				t.Errorf("the nonce of %d and %d is that of %v", sender, counter, other)
			}
			nonces[nonce] = [2]int64{sender, counter}
			for _, key := range []int64{1, 2, 15, 16, 255} {
				head := string(impl.HeadOf(key, sender, counter).Bytes)
				if other, there := heads[head]; there || head == "" {
					t.Errorf("the head of %d, %d and %d is that of %v", key, sender, counter, other)
				}
				heads[head] = [3]int64{key, sender, counter}
			}
		}
	}
}

func headLetter(key int64, sender int64, counter int64) impl.LetterResult {
	return impl.LetterResult{Letter: impl.Letter{Key: key, Sender: sender, Counter: counter}}
}

func letterCode(code int64) impl.LetterResult {
	return impl.LetterResult{Code: code}
}

func TestReadHeadTellsWhoAndWhichNumber(t *testing.T) {
	for _, key := range []int64{1, 2, 15, 16, 128, 254, 255} {
		for sender := range int64(impl.MaxSender + 1) {
			for _, counter := range counters {
				if !isRightCounter(counter) {
					continue
				}
				want := headLetter(key, sender, counter)
				head := impl.HeadOf(key, sender, counter).Bytes
				checkLetter(t, "ReadHead of HeadOf", impl.ReadHead(head), want)
				// What is behind a head does not count, however much it is.
				for _, more := range []int{1, 16, 316, 317, 2000} {
					checkLetter(t, "ReadHead of more", impl.ReadHead(append(wantHead(key, sender, counter), mixedBytes(more, 3)...)), want)
				}
			}
		}
	}
	if got := impl.ReadHead(append(wantHead(1, 2, 3), 4, 5, 6)); len(got.Letter.Text) != 0 {
		t.Errorf("ReadHead tells a Text: %v", got)
	}
}

func TestReadHeadOfTooFewBytes(t *testing.T) {
	for _, head := range [][]byte{wantHead(1, 2, 3), headBytes(0, 0, 0, 0), headBytes(2, 0, 16, math.MaxUint64)} {
		for end := range impl.HeadSize {
			checkLetter(t, "ReadHead of fewer bytes", impl.ReadHead(head[:end]), letterCode(impl.ErrMany))
		}
	}
	checkLetter(t, "ReadHead of nil", impl.ReadHead(nil), letterCode(impl.ErrMany))
	checkLetter(t, "ReadHead of nothing", impl.ReadHead([]byte{}), letterCode(impl.ErrMany))
	checkLetter(t, "ReadHead of just so many", impl.ReadHead(wantHead(1, 2, 3)), headLetter(1, 2, 3))
}

func TestReadHeadOfAnotherVersion(t *testing.T) {
	for version := range 256 {
		want, wrong := letterCode(impl.ErrForm), letterCode(impl.ErrForm)
		if version == impl.Version {
			want, wrong = headLetter(7, 2, 3), letterCode(impl.ErrRange)
		}
		checkLetter(t, "ReadHead", impl.ReadHead(headBytes(byte(version), 7, 2, 3)), want)
		// Ahead of all that is wrong behind it.
		checkLetter(t, "ReadHead", impl.ReadHead(headBytes(byte(version), 0, 2, 3)), wrong)
		checkLetter(t, "ReadHead", impl.ReadHead(headBytes(byte(version), 7, 16, 3)), wrong)
		checkLetter(t, "ReadHead", impl.ReadHead(headBytes(byte(version), 7, 2, 1000000001)), wrong)
		checkLetter(t, "ReadHead", impl.ReadHead(headBytes(byte(version), 7, 2, math.MaxUint64)), wrong)
	}
}

func TestReadHeadOfKeyAndSender(t *testing.T) {
	for key := range 256 {
		for sender := range 256 {
			want := headLetter(int64(key), int64(sender), 9)
			if key == 0 || sender > 15 {
				want = letterCode(impl.ErrRange)
			}
			checkLetter(t, "ReadHead", impl.ReadHead(headBytes(1, byte(key), byte(sender), 9)), want)
		}
	}
}

func TestReadHeadOfCounters(t *testing.T) {
	for _, counter := range []uint64{0, 1, 255, 256, 1 << 24, 999999999, 1000000000} {
		checkLetter(t, "ReadHead", impl.ReadHead(headBytes(1, 4, 5, counter)), headLetter(4, 5, int64(counter)))
	}
	// Above the bound, and where eight bytes are below 0 as an int64, or no int64 at all.
	wrong := []uint64{1000000001, 1<<31 - 1, 1 << 31, 1 << 32, 1<<32 + 5, 1 << 62, math.MaxInt64 - 1, math.MaxInt64, 1 << 63, 1<<63 + 5, 1<<64 - 1000000000, math.MaxUint64}
	for shift := 30; shift < 64; shift++ {
		wrong = append(wrong, 1<<shift, 1<<shift+7)
	}
	for _, counter := range wrong {
		checkLetter(t, fmt.Sprint("ReadHead of the counter ", counter), impl.ReadHead(headBytes(1, 4, 5, counter)), letterCode(impl.ErrRange))
	}
}

// differentLetters are any letters, right and wrong ones, of which no two are the same.
func differentLetters() []impl.Letter {
	text := func(bytes ...byte) impl.Letter { return impl.Letter{Key: 3, Sender: 2, Counter: 7, Text: bytes} }
	return []impl.Letter{
		{}, {Key: 1}, {Sender: 1}, {Counter: 1}, {Text: []byte{0}}, {Text: []byte{1}}, {Text: []byte{0, 0}},
		text(), text(0), text(1), text(1, 2), text(2, 1), text(1, 2, 3), text(1, 2, 0), text(0, 1, 2),
		{Key: 2, Sender: 3, Counter: 7}, {Key: 3, Sender: 7, Counter: 2}, {Key: 7, Sender: 2, Counter: 3},
		{Key: 4, Sender: 2, Counter: 7, Text: []byte{1}}, {Key: 3, Sender: 1, Counter: 7, Text: []byte{1}}, {Key: 3, Sender: 2, Counter: 8, Text: []byte{1}},
		{Key: -1}, {Key: 256}, {Key: 257}, {Key: math.MinInt64}, {Key: math.MaxInt64}, {Key: 1<<32 + 1},
		{Sender: -1}, {Sender: 16}, {Sender: 257}, {Sender: math.MinInt64}, {Sender: math.MaxInt64}, {Sender: 1<<32 + 1},
		{Counter: -1}, {Counter: 1000000001}, {Counter: math.MinInt64}, {Counter: math.MaxInt64}, {Counter: 1<<32 + 1},
		letterOf(1, 1, 1, 300), letterOf(1, 1, 1, 301), letterOf(1, 1, 1, 2000), letterOf(1, 1, 1, 2001), letterOf(1, 1, 2, 2000),
		{Key: 1, Text: make([]byte, 1999)}, {Key: 1, Text: make([]byte, 2000)}, {Key: 1, Text: append(make([]byte, 1999), 1)},
	}
}

func TestSameLetters(t *testing.T) {
	left, right := differentLetters(), differentLetters()
	for i, a := range left {
		for j, b := range right {
			if got := impl.SameLetters(a, b); got != (i == j) {
				t.Errorf("SameLetters of the letters %d and %d = %v", i, j, got)
			}
		}
	}
}

func TestSameLettersOfNilAndEmpty(t *testing.T) {
	for _, a := range [][]byte{nil, {}, mixedBytes(5, 1)[:0]} {
		for _, b := range [][]byte{nil, {}} {
			for _, key := range []int64{0, 1, 256} {
				if !impl.SameLetters(impl.Letter{Key: key, Text: a}, impl.Letter{Key: key, Text: b}) {
					t.Errorf("SameLetters of the texts %#v and %#v is false", a, b)
				}
				if impl.SameLetters(impl.Letter{Key: key, Text: a}, impl.Letter{Key: key + 1, Text: b}) {
					t.Errorf("SameLetters of the texts %#v and %#v, and other keys, is true", a, b)
				}
			}
		}
	}
}
