package tests

import (
	"testing"

	"loop.example/g00725/impl"
)

// oneBlockSteps are those that are told one list of bytes.
var oneBlockSteps = map[string]func([]byte) impl.BytesResult{
	"SubBytes": impl.SubBytes, "ShiftRows": impl.ShiftRows, "MixColumns": impl.MixColumns,
	"EncryptBlock of itself": func(data []byte) impl.BytesResult { return impl.EncryptBlock(data, data) },
}

func TestStepsLeaveTheirBlock(t *testing.T) {
	for name, step := range oneBlockSteps {
		for _, count := range []int{0, 15, 16, 17, 32} {
			whole, data := guarded(mixedBytes(count, 4))
			before := string(whole)
			first, second := step(data), step(data)
			want := string(second.Bytes)
			if string(whole) != before {
				t.Errorf("%s of %d bytes changes its argument", name, count)
			}
			scribble(first.Bytes)
			if string(whole) != before {
				t.Errorf("%s of %d bytes shares memory with its argument", name, count)
			}
			scribble(whole)
			if string(second.Bytes) != want {
				t.Errorf("%s of %d bytes: the answer turns with the argument, or with another answer", name, count)
			}
		}
	}
}

func TestStepsOfNothingToTurn(t *testing.T) {
	// By these the block stays as it is: it has to be a new one nevertheless.
	whole, data := guarded(make([]byte, 16))
	before := string(whole)
	scribble(impl.ShiftRows(data).Bytes)
	scribble(impl.MixColumns(data).Bytes)
	if string(whole) != before {
		t.Error("an answer shares memory with the block")
	}
}

func TestEncryptBlockLeavesItsArguments(t *testing.T) {
	for _, counts := range [][2]int{{16, 16}, {16, 15}, {15, 16}, {0, 16}, {16, 0}, {17, 17}} {
		wholeKey, key := guarded(mixedBytes(counts[0], 21))
		wholeBlock, block := guarded(mixedBytes(counts[1], 22))
		beforeKey, beforeBlock := string(wholeKey), string(wholeBlock)
		first, second := impl.EncryptBlock(key, block), impl.EncryptBlock(key, block)
		want := string(second.Bytes)
		scribble(first.Bytes)
		if string(wholeKey) != beforeKey || string(wholeBlock) != beforeBlock {
			t.Errorf("of %v bytes: an argument is changed, or shared", counts)
		}
		scribble(wholeKey)
		scribble(wholeBlock)
		if string(second.Bytes) != want {
			t.Errorf("of %v bytes: the answer turns with something else", counts)
		}
	}
}

// allWords lays the words of a key one behind the other.
func allWords(words [][]byte) string {
	var out []byte
	for _, word := range words {
		out = append(out, word...)
	}
	return string(out)
}

func TestKeyWordsShareNothing(t *testing.T) {
	whole, key := guarded(mixedBytes(16, 33))
	before := string(whole)
	words, others := impl.KeyWords(key).Words, impl.KeyWords(key).Words
	want := allWords(others)
	if string(whole) != before || allWords(words) != want || len(words) != 44 {
		t.Fatalf("the key is changed, or asked again it is another answer: %x", words)
	}
	for i := range words {
		scribble(words[i])
		for j := range words {
			if j > i && string(words[j]) != want[4*j:4*j+4] {
				t.Errorf("the words %d and %d share memory", i, j)
			}
		}
	}
	if string(whole) != before {
		t.Error("a word shares memory with the key")
	}
	scribble(whole)
	if allWords(others) != want {
		t.Error("a word turns with the key, or with another answer")
	}
}

func TestKeyWordsListIsNew(t *testing.T) {
	key := mixedBytes(16, 34)
	first, second := impl.KeyWords(key).Words, impl.KeyWords(key).Words
	want := allWords(second)
	first = first[:cap(first)]
	for i := range first {
		first[i] = nil
	}
	if allWords(second) != want || allWords(impl.KeyWords(key).Words) != want {
		t.Error("two answers share the list of words")
	}
}

// stageTwoAnswers asks each function of the chapter, the place i of a list at a time.
func stageTwoAnswers(i int) []any {
	key, block := mixedBytes(15+i%3, i), mixedBytes(15+i/3%3, i+1)
	words := impl.KeyWords(key)
	out := []any{impl.RoundConstant(int64(i%14) - 1), words.Code, allWords(words.Words)}
	for _, got := range []impl.BytesResult{
		impl.SubBytes(block), impl.ShiftRows(block), impl.MixColumns(block), impl.EncryptBlock(key, block),
	} {
		out = append(out, got.Code, string(got.Bytes))
	}
	return out
}

func TestCipherHangsOnArgumentsAlone(t *testing.T) {
	const count = 300
	var first [count][]any
	for i := range count {
		first[i] = stageTwoAnswers(i)
	}
	for i := count - 1; i >= 0; i-- {
		for k, got := range stageTwoAnswers(i) {
			if got != first[i][k] {
				t.Errorf("answer %d of the arguments %d: %v, and at first %v", k, i, got, first[i][k])
			}
		}
	}
}
