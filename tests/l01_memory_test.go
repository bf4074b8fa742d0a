package tests

import (
	"testing"

	"loop.example/g00725/impl"
)

// guarded lays data in the midst of a longer list, so that a write behind its end or ahead of its start is seen.
func guarded(data []byte) (whole []byte, piece []byte) {
	whole = mixedBytes(len(data)+32, 77)
	copy(whole[16:], data)
	return whole, whole[16 : 16+len(data)]
}

// scribble writes over all that an answer can reach, the room behind its end, too.
func scribble(answer []byte) {
	answer = answer[:cap(answer)]
	for i := range answer {
		answer[i] ^= 0xa5
	}
}

func TestXorBytesLeavesItsArguments(t *testing.T) {
	for _, counts := range [][2]int{{0, 0}, {1, 1}, {16, 16}, {800, 800}, {801, 801}, {3, 4}, {4, 3}, {0, 5}, {5, 0}} {
		wholeA, a := guarded(mixedBytes(counts[0], 2))
		wholeB, b := guarded(mixedBytes(counts[1], 6))
		beforeA, beforeB := string(wholeA), string(wholeB)
		first := impl.XorBytes(a, b)
		if string(wholeA) != beforeA || string(wholeB) != beforeB {
			t.Errorf("of %v bytes: an argument is changed", counts)
		}
		second := impl.XorBytes(a, b)
		want := string(second.Bytes)
		if string(first.Bytes) != want || first.Code != second.Code {
			t.Errorf("of %v bytes: asked again it is another answer", counts)
		}
		scribble(first.Bytes)
		if string(wholeA) != beforeA || string(wholeB) != beforeB {
			t.Errorf("of %v bytes: the answer shares memory with an argument", counts)
		}
		if string(second.Bytes) != want {
			t.Errorf("of %v bytes: two answers share memory", counts)
		}
		scribble(wholeA)
		scribble(wholeB)
		if string(second.Bytes) != want {
			t.Errorf("of %v bytes: the answer turns with an argument", counts)
		}
	}
}

func TestXorBytesWithItselfAndWithZeros(t *testing.T) {
	whole, a := guarded(mixedBytes(20, 3))
	before := string(whole)
	scribble(impl.XorBytes(a, a).Bytes)
	scribble(impl.XorBytes(a, make([]byte, 20)).Bytes)
	scribble(impl.XorBytes(make([]byte, 20), a).Bytes)
	scribble(impl.XorBytes(a[:10], a[10:]).Bytes)
	scribble(impl.XorBytes(a[:15], a[5:]).Bytes)
	if string(whole) != before {
		t.Error("an answer shares memory with an argument")
	}
}

func TestReadersLeaveTheirArguments(t *testing.T) {
	whole, data := guarded([]byte{1, 2, 3, 4, 5, 6, 7, 8, 255, 255, 255, 255, 255, 255, 255, 255})
	other, same := guarded(data)
	before, beforeOther := string(whole), string(other)
	for _, at := range farNumbers {
		for _, size := range farNumbers {
			impl.ReadWord(data, at, size)
		}
	}
	impl.SameBytes(data, same)
	impl.SameBytes(data, same[:3])
	if string(whole) != before || string(other) != beforeOther {
		t.Error("an argument is changed")
	}
}

func TestReadWordSeesNoRoomBehindTheEnd(t *testing.T) {
	_, data := guarded([]byte{1, 2, 3})
	for _, row := range [][2]int64{{0, 4}, {1, 3}, {3, 1}, {2, 8}} {
		if got := impl.ReadWord(data, row[0], row[1]); got.Code != impl.ErrRange {
			t.Errorf("at %d of size %d: %v, want ErrRange: the capacity does not count", row[0], row[1], got)
		}
	}
}

func TestPackWordAnswersNewMemory(t *testing.T) {
	for size := int64(1); size <= 8; size++ {
		for _, n := range []int64{0, 1, 255, greatestOf(size)} {
			first, second := impl.PackWord(n, size), impl.PackWord(n, size)
			scribble(first.Bytes)
			third := impl.PackWord(n, size)
			want := string(wantPack(n, size).Bytes)
			if string(second.Bytes) != want || string(third.Bytes) != want {
				t.Errorf("PackWord(%d, %d): two answers share memory", n, size)
			}
		}
	}
}

// stageOneAnswers asks each function of the chapter, the place i of a list at a time.
func stageOneAnswers(i int) []any {
	n := farNumbers[i%len(farNumbers)]
	size := int64(i%11) - 1
	data := mixedBytes(i%19, i)
	xor := impl.XorBytes(data, mixedBytes(i%19, i+1))
	word := impl.PackWord(n, size)
	return []any{
		impl.FieldTimes(byte(i), byte(i*7)), impl.FieldInverse(byte(i)), impl.SubByte(byte(i)),
		xor.Code, string(xor.Bytes), word.Code, string(word.Bytes),
		impl.ReadWord(data, int64(i%21)-1, size), impl.ReadWord(data, n, size), impl.SameBytes(data, xor.Bytes),
	}
}

func TestAnswersHangOnArgumentsAlone(t *testing.T) {
	const count = 600
	var first [count][]any
	for i := range count {
		first[i] = stageOneAnswers(i)
	}
	// The other way round: what was asked ahead is now asked behind.
	for i := count - 1; i >= 0; i-- {
		for k, got := range stageOneAnswers(i) {
			if got != first[i][k] {
				t.Errorf("answer %d of the arguments %d: %v, and at first %v", k, i, got, first[i][k])
			}
		}
	}
}
