package tests

import (
	"encoding/binary"
	"fmt"
	"regexp"
	"slices"
	"strings"
	"testing"

	"loop.example/g00725/impl"
)

const labelBytes = "abcdefghijklmnopqrstuvwxyz0123456789-"

var rightLabel = regexp.MustCompile(`\A[a-z0-9-]{1,20}\z`)

// aLabel has so many bytes, by seed others than by another one.
func aLabel(size int, seed int) string {
	var out []byte
	for i := range size {
		out = append(out, labelBytes[(seed+i*5)%37])
	}
	return string(out)
}

// someLabels are so many labels, each one of so many bytes.
func someLabels(count int, size int) []string {
	var out []string
	for i := range count {
		out = append(out, aLabel(size, i*11))
	}
	return out
}

// rightNames are labels without a fault.
func rightNames() [][]string {
	out := [][]string{nil, {}, {"s1", "local"}, {"s1"}, {"local"}, {"local", "s1"}, {"a"}, {"z"}, {"0"}, {"9"}, {"-"}, {"--"}, {"-a-"}, {"0-9"}, {"n0"}, {"a", "a", "a"}, {"aa", "a"}}
	for count := 1; count <= 6; count++ {
		for _, size := range []int{1, 2, 3, 19, 20} {
			out = append(out, someLabels(count, size))
		}
		out = append(out, []string{aLabel(count, 3), aLabel(21-count, 4), aLabel(count*3, 5)})
	}
	return out
}

// wrongLabels are none: too short, too long, and with a byte that a label does not have.
func wrongLabels() []string {
	out := []string{"", aLabel(21, 0), aLabel(22, 1), aLabel(63, 2), aLabel(64, 2), aLabel(192, 3), aLabel(255, 4), aLabel(256, 4), aLabel(257, 5), aLabel(276, 6), strings.Repeat("a", 5000)}
	for _, c := range []string{"A", "Z", ".", "`", "{", "/", ":", ",", "_", " ", "\x00", "\x01", "\x7f", "\x80", "\xc0", "\xff", "é", "ａ", "٣", "\n", "@", "[", "%", "+"} {
		out = append(out, c, "a"+c, c+"b", "a"+c+"b", strings.Repeat("a", 19)+c)
	}
	return append(out, "Local", "S1", "a.b", "local.", "s 1", "a\x00")
}

// wrongNames have each fault, and both.
func wrongNames() [][]string {
	out := [][]string{someLabels(7, 1), someLabels(7, 20), someLabels(8, 3), someLabels(300, 1), make([]string, 7), make([]string, 256), {"A"}, {""}, {"", "a"}, make([]string, 6)}
	for i, wrong := range wrongLabels() {
		out = append(out, []string{wrong}, slices.Insert(someLabels(i%6, 3), i%6/2, wrong), append(someLabels(5, 2), wrong), append(someLabels(6, 2), wrong))
	}
	return out
}

// wantNameFault asks code by code, as the document names them.
func wantNameFault(labels []string) int64 {
	if len(labels) > 6 {
		return impl.ErrMany
	}
	if slices.ContainsFunc(labels, func(label string) bool { return !rightLabel.MatchString(label) }) {
		return impl.ErrText
	}
	return impl.OK
}

// wantNameBytes are the bytes of labels, right ones or not.
func wantNameBytes(labels []string) []byte {
	text := ""
	for _, label := range labels {
		text += string([]byte{byte(len(label))}) + label
	}
	return []byte(text + "\x00")
}

func either(first bool, a int64, b int64) int64 {
	if first {
		return a
	}
	return b
}

func checkEncoded(t *testing.T, labels []string, code int64) {
	t.Helper()
	got := impl.EncodeName(labels)
	checkCode(t, fmt.Sprintf("EncodeName of %q", labels), got, code)
	if code == impl.OK && string(got.Bytes) != string(wantNameBytes(labels)) {
		t.Errorf("EncodeName of %q = %x", labels, got.Bytes)
	}
	if want := wantNameFault(labels); want != code {
		t.Errorf("by the document's words it is %d of %q, not %d", want, labels, code)
	}
}

func nameCode(code int64) impl.NameResult {
	return impl.NameResult{Code: code}
}

func toldName(next int64, labels ...string) impl.NameResult {
	return impl.NameResult{Name: impl.Name{Labels: labels, Next: next}}
}

// nameText tells all fields; an empty list and nil are told alike.
func nameText(got impl.NameResult) string {
	return fmt.Sprintf("%d %d %q", got.Code, got.Name.Next, got.Name.Labels)
}

// wantName is ReadName by the document's words.
func wantName(data []byte, at int64) impl.NameResult {
	if at < 0 || at >= int64(len(data)) {
		return nameCode(impl.ErrRange)
	}
	var labels []string
	var behind []int64 // the places behind each jump
	for {
		rest := data[at:]
		if len(rest) == 0 {
			return nameCode(impl.ErrText)
		}
		switch size := int64(rest[0]); {
		case size == 0:
			return toldName(append(behind, at+1)[0], labels...)
		case size < 192:
			if int64(len(rest)) < 1+size || !rightLabel.Match(rest[1:1+size]) {
				return nameCode(impl.ErrText)
			}
			if labels = append(labels, string(rest[1:1+size])); len(labels) > 6 {
				return nameCode(impl.ErrMany)
			}
			at += 1 + size
		case len(rest) == 1:
			return nameCode(impl.ErrText)
		default:
			behind = append(behind, at+2)
			place := int64(binary.BigEndian.Uint16(rest) & 0x3fff)
			if place >= at || len(behind) > 5 {
				return nameCode(impl.ErrText)
			}
			at = place
		}
	}
}

func checkName(t *testing.T, data []byte, at int64, want impl.NameResult) {
	t.Helper()
	short := data[:min(len(data), 200)]
	if got := impl.ReadName(data, at); nameText(got) != nameText(want) {
		t.Errorf("ReadName of %x from %d on: %s, want %s", short, at, nameText(got), nameText(want))
	}
	if words := wantName(data, at); nameText(words) != nameText(want) {
		t.Errorf("by the document's words it is %s of %x from %d on, not %s", nameText(words), short, at, nameText(want))
	}
}

func TestNameConstants(t *testing.T) {
	got := [8]int64{impl.MaxLabels, impl.MaxLabel, impl.MaxJumps, impl.MaxService, impl.TypeA, impl.TypeSrv, impl.MaxAnswer, impl.MinAnswer}
	if got != [8]int64{6, 20, 5, 99, 1, 33, 300, 60} {
		t.Errorf("the constants are %v", got)
	}
}

func TestEncodeNameExamples(t *testing.T) {
	for _, row := range []struct {
		labels []string
		want   string
	}{
		{[]string{"s1", "local"}, "027331056c6f63616c00"}, {nil, "00"}, {[]string{}, "00"}, {make([]string, 0, 9), "00"}, {[]string{"a", "b"}[:0], "00"},
		{[]string{"a"}, "016100"}, {[]string{"-", "0", "z"}, "012d0130017a00"}, {[]string{"n3"}, "026e3300"},
		{[]string{"abcdefghijklmnopqrst"}, "146162636465666768696a6b6c6d6e6f707172737400"},
		{[]string{"1", "2", "3", "4", "5", "6"}, "01310132013301340135013600"},
	} {
		checkBlock(t, fmt.Sprintf("EncodeName of %q", row.labels), nil, impl.EncodeName(row.labels), fromHex(t, row.want))
	}
}

func TestEncodeNameOfManyNames(t *testing.T) {
	texts := map[string]int{}
	for i, labels := range rightNames() {
		checkEncoded(t, labels, impl.OK)
		texts[string(wantNameBytes(labels))] = i
	}
	for _, labels := range wrongNames() {
		checkEncoded(t, labels, wantNameFault(labels))
		if wantNameFault(labels) == impl.OK {
			t.Fatalf("%q has no fault", labels)
		}
	}
	if len(texts) < len(rightNames())-3 {
		t.Errorf("%d names have %d different bytes", len(rightNames()), len(texts))
	}
}

func TestEncodeNameHowManyLabels(t *testing.T) {
	for _, count := range []int{0, 1, 5, 6, 7, 8, 12, 255, 256, 257, 262, 5000} {
		for _, size := range []int{1, 7, 20} {
			checkEncoded(t, someLabels(count, size), either(count > 6, impl.ErrMany, impl.OK))
		}
		// Ahead of what is no label.
		if count > 0 {
			for _, wrong := range []string{"", "A", aLabel(21, 0)} {
				for _, at := range []int{0, count / 2, count - 1} {
					labels := someLabels(count, 2)
					labels[at] = wrong
					checkEncoded(t, labels, either(count > 6, impl.ErrMany, impl.ErrText))
				}
			}
		}
	}
}

func TestEncodeNameOfOneLabel(t *testing.T) {
	for size := range 300 {
		code := either(1 <= size && size <= 20, impl.OK, impl.ErrText)
		checkEncoded(t, []string{aLabel(size, size)}, code)
		checkEncoded(t, append(someLabels(5, 20), aLabel(size, size)), code)
	}
	for _, wrong := range wrongLabels() {
		for ahead := range 6 {
			for behind := range 6 - ahead {
				checkEncoded(t, slices.Concat(someLabels(ahead, 2), []string{wrong}, someLabels(behind, 3)), impl.ErrText)
			}
		}
	}
}

func TestEncodeNameOfEachByte(t *testing.T) {
	for b := range 256 {
		code := either(strings.IndexByte(labelBytes, byte(b)) >= 0, impl.OK, impl.ErrText)
		for _, size := range []int{1, 2, 3, 20} {
			for at := range size {
				label := []byte(aLabel(size, b))
				label[at] = byte(b)
				checkEncoded(t, []string{string(label)}, code)
				checkEncoded(t, []string{"s1", string(label), "local"}, code)
			}
		}
	}
}

func TestNamesAreReadBack(t *testing.T) {
	for i, labels := range rightNames() {
		packed := impl.EncodeName(labels).Bytes
		for _, ahead := range []int{0, 1, 12, 300} {
			for _, behind := range [][]byte{nil, {0}, {255}, {192, 0}, mixedBytes(40, i)} {
				data := slices.Concat(mixedBytes(ahead, i*3), packed, behind)
				checkName(t, data, int64(ahead), toldName(int64(ahead+len(packed)), labels...))
			}
		}
	}
}

func TestReadNameWhere(t *testing.T) {
	for _, data := range [][]byte{nil, {}, {0}, {0, 0}, {0, 0, 0, 0, 0}, make([]byte, 256), make([]byte, 300)} {
		count := int64(len(data))
		for _, at := range append(boundsOf(0, max(count-1, 0)), count, count+1, count*2, -count, 255, 256) {
			want := nameCode(impl.ErrRange)
			if 0 <= at && at < count {
				want = toldName(at + 1)
			}
			checkName(t, data, at, want)
		}
	}
	// The last place of data, and one behind it, whatever stands there.
	for b := 1; b < 256; b++ {
		data := []byte{0, 1, 'a', byte(b)}
		checkName(t, data, 3, nameCode(impl.ErrText))
		checkName(t, data, 4, nameCode(impl.ErrRange))
		checkName(t, data, -1, nameCode(impl.ErrRange))
		checkName(t, data, 0, toldName(1))
	}
}

func TestReadNameOfAnotherByte(t *testing.T) {
	for b := 21; b < 192; b++ {
		data := append([]byte{byte(b)}, make([]byte, 300)...)
		checkName(t, data, 0, nameCode(impl.ErrText))
		letters := slices.Concat([]byte{byte(b)}, []byte(strings.Repeat("a", b)), []byte{0})
		checkName(t, letters, 0, nameCode(impl.ErrText))
		// Behind labels, and behind a jump.
		checkName(t, append([]byte("\x01a\x02bc"), letters...), 0, nameCode(impl.ErrText))
		checkName(t, append(letters, "\x01a\xc0\x00"...), int64(len(letters)), nameCode(impl.ErrText))
		checkName(t, append([]byte{byte(b), 0, 0}, 192, 0), 3, nameCode(impl.ErrText))
	}
}

func TestReadNameOfLabels(t *testing.T) {
	for size := 1; size <= 20; size++ {
		label := aLabel(size, size)
		whole := wantNameBytes([]string{label})
		checkName(t, whole, 0, toldName(int64(size)+2, label))
		// Data end in the label, behind it, and among others.
		for end := 1; end < len(whole); end++ {
			checkName(t, whole[:end], 0, nameCode(impl.ErrText))
			checkName(t, append([]byte("\x02bc"), whole[:end]...), 0, nameCode(impl.ErrText))
			if end <= size {
				// The byte 0 is no end where the label is not at its end.
				checkName(t, append(slices.Clone(whole[:end]), 0), 0, nameCode(impl.ErrText))
			}
		}
		for at := range size {
			for b := range 256 {
				data := slices.Clone(whole)
				data[1+at] = byte(b)
				want := nameCode(impl.ErrText)
				if strings.IndexByte(labelBytes, byte(b)) >= 0 {
					want = toldName(int64(size)+2, string(data[1:1+size]))
				}
				checkName(t, data, 0, want)
			}
		}
	}
}

func TestReadNameHowManyLabels(t *testing.T) {
	for count := range 12 {
		for _, size := range []int{1, 7, 20} {
			labels := someLabels(count, size)
			data := wantNameBytes(labels)
			want := toldName(int64(len(data)), labels...)
			if count > 6 {
				want = nameCode(impl.ErrMany)
			}
			checkName(t, data, 0, want)
			if count == 0 {
				continue
			}
			// The last label is none, or what is behind it: label by label, ErrText of one ahead of ErrMany of the next one.
			wrong := slices.Clone(data)
			wrong[len(wrong)-2] = '.'
			code := either(count > 7, impl.ErrMany, impl.ErrText)
			checkName(t, wrong, 0, nameCode(code))
			checkName(t, data[:len(data)-2], 0, nameCode(code))
			behind := slices.Clone(data)
			behind[len(behind)-1] = 99
			code = either(count > 6, impl.ErrMany, impl.ErrText)
			checkName(t, behind, 0, nameCode(code))
			checkName(t, data[:len(data)-1], 0, nameCode(code))
		}
	}
}

func TestReadNameOfAJump(t *testing.T) {
	data := []byte("\x02s1\x05local\x00\x01x\xc0\x03\x01y\xc0\x0a\xc0\x00")
	for _, row := range []struct {
		at   int64
		want impl.NameResult
	}{
		{0, toldName(10, "s1", "local")}, {3, toldName(10, "local")}, {9, toldName(10)}, {10, toldName(14, "x", "local")}, {12, toldName(14, "local")},
		{14, toldName(18, "y", "x", "local")}, {16, toldName(18, "x", "local")}, {18, toldName(20, "s1", "local")},
		// In the midst of what was meant as something else.
		{1, nameCode(impl.ErrText)}, {2, nameCode(impl.ErrText)}, {11, nameCode(impl.ErrText)}, {13, nameCode(impl.ErrText)}, {17, nameCode(impl.ErrText)}, {19, toldName(20)},
		{20, nameCode(impl.ErrRange)},
	} {
		checkName(t, data, row.at, row.want)
	}
	// Its second byte is gone, or the byte that it goes on at is another one.
	for first := 192; first < 256; first++ {
		checkName(t, []byte{0, byte(first)}, 1, nameCode(impl.ErrText))
		checkName(t, []byte{1, 'a', byte(first)}, 0, nameCode(impl.ErrText))
		checkName(t, []byte{byte(first)}, 0, nameCode(impl.ErrText))
	}
	checkName(t, []byte{'a', 1, 192, 0}, 1, nameCode(impl.ErrText))
	checkName(t, []byte{1, 'a', 192, 1}, 2, nameCode(impl.ErrText))
	// It goes on within a label of this very name.
	checkName(t, []byte("\x03\x01b\x00\xc0\x01"), 4, toldName(6, "b"))
	checkName(t, []byte("\x00\x02b0\xc0\x00"), 1, toldName(6, "b0"))
}

func TestReadNameOfAJumpThatIsNotBack(t *testing.T) {
	for at := range 600 {
		data := make([]byte, 700)
		for _, place := range []int{0, 1, at - 256, at - 1, at, at + 1, at + 2, at + 3, at + 256, 699, 700, 701, 16383} {
			if place < 0 || place > 16383 {
				continue
			}
			binary.BigEndian.PutUint16(data[at:], uint16(place)|0xc000)
			want := toldName(int64(at) + 2)
			if place >= at {
				want = nameCode(impl.ErrText)
			}
			checkName(t, data, int64(at), want)
		}
	}
	// Not below the jump, though below where the name begins, or behind labels.
	checkName(t, []byte("\x01a\xc0\x02"), 0, nameCode(impl.ErrText))
	checkName(t, []byte("\x01a\xc0\x04\x00"), 0, nameCode(impl.ErrText))
	checkName(t, []byte("\x01a\xc0\x03\x00"), 0, nameCode(impl.ErrText))
	checkName(t, []byte("\x00\x01a\xc0\x00"), 1, toldName(5, "a"))
	checkName(t, []byte{192, 0}, 0, nameCode(impl.ErrText))
	checkName(t, []byte{192, 1, 0}, 0, nameCode(impl.ErrText))
	checkName(t, []byte{0, 192, 1}, 1, nameCode(impl.ErrText))
}

func TestReadNameOfAJumpFarAway(t *testing.T) {
	// At each place that is a multiple of 7 a label tells which one it is.
	data := make([]byte, 16384+20)
	for place := 0; place+7 <= 16384; place += 7 {
		copy(data[place:], fmt.Sprintf("\x05%05d\x00", place))
	}
	for place := 0; place+7 <= 16384; place += 7 {
		jump := []byte{byte(192 + place/256), byte(place % 256)}
		for _, behind := range [][]byte{nil, {0}, {9, 9}} {
			whole := slices.Concat(data, jump, behind)
			want := toldName(int64(len(data)+2), fmt.Sprintf("%05d", place))
			if got := impl.ReadName(whole, int64(len(data))); nameText(got) != nameText(want) {
				t.Fatalf("ReadName of a jump to %d: %s", place, nameText(got))
			}
		}
	}
	// The farthest one of all.
	far := make([]byte, 16390)
	far[16388], far[16389] = 255, 255
	checkName(t, far, 16388, toldName(16390))
	copy(far[16380:], "\x02ab\x01c\x00")
	checkName(t, far, 16388, toldName(16390, "c"))
}

// jumpsInARow has at place 0 a name of the byte 0, and behind it so many jumps, each one to the one ahead of it, and
// labels ahead of each.
func jumpsInARow(count int, labels ...string) (data []byte, at int64) {
	data, at = []byte{0}, 0
	for range count {
		next := int64(len(data))
		name := wantNameBytes(labels)
		data = append(append(data, name[:len(name)-1]...), 192+byte(at>>8), byte(at))
		at = next
	}
	return data, at
}

func TestReadNameHowManyJumps(t *testing.T) {
	for count := range 12 {
		data, at := jumpsInARow(count)
		want := toldName(int64(len(data)))
		if count > 5 {
			want = nameCode(impl.ErrText)
		}
		checkName(t, data, at, want)
		// Each of them is one of a chain, too.
		for i := range count {
			checkName(t, data, int64(1+i*2), wantName(data, int64(1+i*2)))
		}
		// Labels ahead of each of them are counted together, and those at the end.
		for many := 1; many <= 3; many++ {
			data, at := jumpsInARow(count, someLabels(many, 2)...)
			var labels []string
			for range count {
				labels = append(labels, someLabels(many, 2)...)
			}
			want := toldName(int64(len(data)), labels...)
			switch {
			case many == 1 && count > 5:
				// The sixth jump stands behind the sixth label, ahead of the seventh one.
				want = nameCode(impl.ErrText)
			case many*count > 6:
				want = nameCode(impl.ErrMany)
			}
			checkName(t, data, at, want)
		}
	}
}

func TestReadNameLabelsOnBothSidesOfAJump(t *testing.T) {
	for ahead := range 8 {
		for behind := range 8 {
			last := wantNameBytes(someLabels(behind, 3))
			first := wantNameBytes(someLabels(ahead, 2))
			data := slices.Concat(last, first[:len(first)-1], []byte{192, 0}, []byte("\x01z\x00"))
			want := toldName(int64(len(data)-3), append(someLabels(ahead, 2), someLabels(behind, 3)...)...)
			if ahead+behind > 6 {
				want = nameCode(impl.ErrMany)
			}
			checkName(t, data, int64(len(last)), want)
		}
	}
}

func TestReadNameThatJumpsToItself(t *testing.T) {
	for count := range 8 {
		name := wantNameBytes(someLabels(count, 2))
		data := append(name[:len(name)-1], 192, 0)
		want := nameCode(impl.ErrMany)
		if count < 2 {
			// By none it is a jump to itself, by one there are six jumps ahead of the seventh label.
			want = nameCode(impl.ErrText)
		}
		checkName(t, data, 0, want)
		checkName(t, append(data, 0), 0, want)
		// Within the name: from its second label on.
		if count >= 2 {
			data[len(data)-1] = 3
			checkName(t, data, 0, wantName(data, 0))
		}
	}
}

func TestReadNameOfMixedBytes(t *testing.T) {
	pieces := []byte{0, 0, 1, 1, 2, 3, 'a', 'z', '-', '0', 192, 192, 193, 255, 20, 21, 191, 4, 5, 'A'}
	codes := map[int64]int{}
	for seed := range 4000 {
		data := mixedBytes(seed%60, seed*7+1)
		for i := range data {
			if seed%5 > 0 {
				data[i] = pieces[(int(data[i])+i*seed)%(len(pieces)-seed%4)]
			}
		}
		for at := -1; at <= len(data); at++ {
			want := wantName(data, int64(at))
			checkName(t, data, int64(at), want)
			codes[want.Code]++
		}
	}
	for _, code := range []int64{impl.OK, impl.ErrRange, impl.ErrText} {
		if codes[code] < 1000 {
			t.Errorf("few of the mixed bytes have the code %d: %v", code, codes)
		}
	}
}

func TestReadNameOfEachByteTurned(t *testing.T) {
	right := []byte("\x02s1\x05local\x00\x01x\xc0\x03\x01y\xc0\x0a\x01a\x01b\x01c\x01d\x01e\xc0\x0e")
	for at := range right {
		for mask := 1; mask < 256; mask++ {
			data := spoilt(right, at, byte(mask))
			for from := range data {
				checkName(t, data, int64(from), wantName(data, int64(from)))
			}
		}
	}
}
