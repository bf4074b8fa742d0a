package tests

import (
	"testing"

	"loop.example/g00725/impl"
)

// sealingFaces are all functions of the chapter, told as many lists as each of them takes.
var sealingFaces = []struct {
	name   string
	counts [][]int
	ask    func(lists [][]byte) impl.BytesResult
}{
	{
		"GroupTimes", [][]int{{16, 16}, {15, 16}, {16, 17}, {0, 0}},
		func(l [][]byte) impl.BytesResult { return impl.GroupTimes(l[0], l[1]) },
	},
	{
		"HashAll", [][]int{{16, 0}, {16, 16}, {16, 800}, {16, 801}, {16, 17}, {15, 16}},
		func(l [][]byte) impl.BytesResult { return impl.HashAll(l[0], l[1]) },
	},
	{
		"CountUp", [][]int{{16}, {15}, {17}, {0}},
		func(l [][]byte) impl.BytesResult { return impl.CountUp(l[0]) },
	},
	{
		"StreamXor", [][]int{{16, 16, 0}, {16, 16, 5}, {16, 16, 48}, {16, 16, 600}, {16, 16, 601}, {15, 16, 5}, {16, 17, 5}},
		func(l [][]byte) impl.BytesResult { return impl.StreamXor(l[0], l[1], l[2]) },
	},
	{
		"SealText", [][]int{{16, 12, 0, 0}, {16, 12, 5, 7}, {16, 12, 16, 32}, {16, 12, 100, 600}, {16, 12, 101, 0}, {16, 13, 5, 5}, {16, 12, 0, 601}},
		func(l [][]byte) impl.BytesResult { return impl.SealText(l[0], l[1], l[2], l[3]) },
	},
	{
		"OpenText", [][]int{{16, 12, 0, 0}, {16, 12, 5, 16}, {16, 12, 16, 48}, {16, 12, 100, 616}, {16, 12, 0, 617}, {16, 11, 0, 16}},
		func(l [][]byte) impl.BytesResult { return impl.OpenText(l[0], l[1], l[2], l[3]) },
	},
}

// checkMemory asks twice, and writes over one answer and over all arguments: nothing else may turn by that.
func checkMemory(t *testing.T, name string, lists [][]byte, ask func(lists [][]byte) impl.BytesResult) {
	t.Helper()
	wholes, pieces, before := make([][]byte, len(lists)), make([][]byte, len(lists)), make([]string, len(lists))
	for i, list := range lists {
		wholes[i], pieces[i] = guarded(list)
		before[i] = string(wholes[i])
	}
	first, second := ask(pieces), ask(pieces)
	want := string(second.Bytes)
	if string(first.Bytes) != want || first.Code != second.Code {
		t.Errorf("%s: asked again it is another answer", name)
	}
	scribble(first.Bytes)
	for i := range lists {
		if string(wholes[i]) != before[i] {
			t.Errorf("%s: argument %d is changed, or shared", name, i)
		}
		scribble(wholes[i])
	}
	if string(second.Bytes) != want {
		t.Errorf("%s: the answer turns with an argument, or with another answer", name)
	}
}

func TestSealingLeavesItsArguments(t *testing.T) {
	for _, face := range sealingFaces {
		for _, counts := range face.counts {
			var lists [][]byte
			for i, count := range counts {
				lists = append(lists, mixedBytes(count, 31+i))
			}
			checkMemory(t, face.name, lists, face.ask)
		}
	}
}

func TestOpeningLeavesItsArguments(t *testing.T) {
	for _, row := range [][2]int{{0, 0}, {3, 1}, {16, 16}, {20, 50}, {100, 600}} {
		a := sealOf(row[0], row[1], 44)
		checkMemory(t, "OpenText of what was sealed", [][]byte{a.key, a.nonce, a.extra, a.seal().Bytes}, func(l [][]byte) impl.BytesResult {
			got := impl.OpenText(l[0], l[1], l[2], l[3])
			if got.Code != impl.OK || string(got.Bytes) != string(a.plain) {
				t.Errorf("of %v bytes: %v", row, got)
			}
			return got
		})
	}
}

func TestSealingOfListsThatOverlap(t *testing.T) {
	whole, data := guarded(mixedBytes(16, 45))
	before := string(whole)
	one := make([]byte, 16)
	one[0] = 128
	scribble(impl.GroupTimes(data, data).Bytes)
	scribble(impl.GroupTimes(data, one).Bytes)
	scribble(impl.HashAll(data, data).Bytes)
	scribble(impl.HashAll(one, data).Bytes)
	scribble(impl.StreamXor(data, data, data).Bytes)
	scribble(impl.SealText(data, data[:12], data, data).Bytes)
	scribble(impl.SealText(data, data[4:], data[:3], data[3:]).Bytes)
	scribble(impl.OpenText(data, data[:12], data, data).Bytes)
	if string(whole) != before || string(one) != "\x80"+string(make([]byte, 15)) {
		t.Error("an argument is changed, or shared")
	}
}

// stageThreeAnswers asks each function of the chapter, the place i of a list at a time.
func stageThreeAnswers(i int) []any {
	key, block := mixedBytes(16-i%7/6, i), mixedBytes(15+i/3%3, i+1)
	data := mixedBytes(i%70, i+2)
	sealed := impl.SealText(key, mixedBytes(12, i), data, data)
	var out []any
	for _, got := range []impl.BytesResult{
		impl.GroupTimes(key, block), impl.HashAll(block, data), impl.CountUp(block), impl.StreamXor(key, block, data),
		sealed, impl.OpenText(key, mixedBytes(12, i), data, sealed.Bytes), impl.OpenText(key, mixedBytes(12, i), data, data),
	} {
		out = append(out, got.Code, string(got.Bytes))
	}
	return out
}

func TestSealingHangsOnArgumentsAlone(t *testing.T) {
	const count = 300
	var first [count][]any
	for i := range count {
		first[i] = stageThreeAnswers(i)
	}
	for i := count - 1; i >= 0; i-- {
		for k, got := range stageThreeAnswers(i) {
			if got != first[i][k] {
				t.Errorf("answer %d of the arguments %d: %v, and at first %v", k, i, got, first[i][k])
			}
		}
	}
}
