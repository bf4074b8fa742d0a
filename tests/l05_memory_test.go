package tests

import (
	"fmt"
	"math"
	"testing"

	"loop.example/g00725/impl"
)

// memoryRings are right and wrong ones, few enough to be sealed by.
func memoryRings() []impl.Ring {
	return []impl.Ring{
		ringOf(5, 5), ringOf(2, 2, 5), ringOf(5, 2, 5, 255), ringOf(255, 255), {}, ringOf(1, 1, 2, 3, 4), ringOf(5, 5, 2), ringOf(9, 5),
		ringOfKeys(5, sizedKey(5, 15)),
	}
}

// checkLists asks twice, and writes over one answer and over all arguments: nothing else may turn by that. What is told
// of an answer is its text, and the one list that it has.
func checkLists(t *testing.T, name string, r impl.Ring, data []byte, ask func(r impl.Ring, data []byte) (string, []byte)) {
	t.Helper()
	g := guardRing(r)
	whole, piece := guarded(data)
	before, beforeData := g.text(), string(whole)
	text, list := ask(g.ring, piece)
	again, other := ask(g.ring, piece)
	want := string(other)
	if text != again || string(list) != want {
		t.Errorf("%s: asked again it is another answer", name)
	}
	scribble(list)
	if g.text() != before || string(whole) != beforeData {
		t.Errorf("%s: an argument is changed, or shared", name)
	}
	if string(other) != want {
		t.Errorf("%s: two answers share memory", name)
	}
	for _, w := range append(g.wholes, whole) {
		scribble(w)
	}
	scribbleRing(impl.Ring{Keys: g.keys})
	if string(other) != want {
		t.Errorf("%s: the answer turns with an argument", name)
	}
}

func TestSealLetterLeavesItsArguments(t *testing.T) {
	for _, r := range memoryRings() {
		for _, l := range append(rightLetters(5), letterOf(6, 3, 44, 20), letterOf(5, 16, 44, 20), letterOf(5, 3, 44, 301)) {
			checkLists(t, "SealLetter", r, l.Text, func(r impl.Ring, text []byte) (string, []byte) {
				got := impl.SealLetter(r, impl.Letter{Key: l.Key, Sender: l.Sender, Counter: l.Counter, Text: text})
				return fmt.Sprint(got.Code), got.Bytes
			})
		}
	}
}

func TestOpenLetterLeavesItsArguments(t *testing.T) {
	for _, r := range memoryRings() {
		for _, l := range rightLetters(5) {
			sealed := impl.SealLetter(ringOf(5, 5), l).Bytes
			for _, data := range [][]byte{sealed, spoilt(sealed, len(sealed)-1, 1), spoilt(sealed, 0, 1), sealed[:11], sealed[:5], append(sealed, make([]byte, 317)...)} {
				checkLists(t, "OpenLetter", r, data, func(r impl.Ring, data []byte) (string, []byte) {
					got := impl.OpenLetter(r, data)
					return fmt.Sprint(got.Code, got.Letter.Key, got.Letter.Sender, got.Letter.Counter), got.Letter.Text
				})
			}
		}
	}
}

func TestHeadsAreNewMemory(t *testing.T) {
	for range 2 {
		for _, ask := range []func() impl.BytesResult{
			func() impl.BytesResult { return impl.NonceOf(2, 3) }, func() impl.BytesResult { return impl.NonceOf(0, 0) },
			func() impl.BytesResult { return impl.HeadOf(1, 2, 3) }, func() impl.BytesResult { return impl.HeadOf(1, 0, 0) },
			func() impl.BytesResult { return impl.HeadOf(255, 15, 1000000000) },
		} {
			first, second := ask(), ask()
			want := string(second.Bytes)
			if string(first.Bytes) != want || want == "" {
				t.Error("asked again it is another answer")
			}
			scribble(first.Bytes)
			if string(second.Bytes) != want || string(ask().Bytes) != want {
				t.Error("two answers share memory")
			}
		}
	}
}

func TestLettersThatAreAskedStay(t *testing.T) {
	for _, a := range differentLetters() {
		for _, b := range differentLetters() {
			wholeA, textA := guarded(a.Text)
			wholeB, textB := guarded(b.Text)
			beforeA, beforeB := string(wholeA), string(wholeB)
			a.Text, b.Text = textA, textB
			impl.LetterFault(a)
			impl.SameLetters(a, b)
			impl.SameLetters(a, a)
			impl.ReadHead(a.Text)
			if string(wholeA) != beforeA || string(wholeB) != beforeB {
				t.Fatalf("LetterFault, SameLetters or ReadHead of %v and %v changes an argument", a, b)
			}
		}
	}
	whole, head := guarded(wantHead(5, 3, 44))
	before := string(whole)
	if got := impl.ReadHead(head); got.Code != impl.OK || string(whole) != before {
		t.Errorf("ReadHead changes a head: %v", got)
	}
}

func TestLettersOfListsThatAreShared(t *testing.T) {
	// The keys and the Text are one list, and what is opened lies behind its ring's own key.
	whole, bytes := guarded(mixedBytes(16, 9))
	before := string(whole)
	r := ringOfKeys(5, impl.Key{Id: 2, Bytes: bytes}, impl.Key{Id: 5, Bytes: bytes})
	l := impl.Letter{Key: 5, Sender: 1, Counter: 2, Text: bytes}
	sealed := impl.SealLetter(r, l)
	opened := impl.OpenLetter(r, sealed.Bytes)
	checkLetter(t, "OpenLetter", opened, impl.LetterResult{Letter: l})
	scribble(opened.Letter.Text)
	scribble(sealed.Bytes)
	if string(whole) != before {
		t.Error("an argument is changed, or shared")
	}
	one := append(append([]byte{}, bytes...), impl.SealLetter(r, l).Bytes...)
	before = string(one)
	opened = impl.OpenLetter(ringOfKeys(5, impl.Key{Id: 5, Bytes: one[:16]}), one[16:])
	checkLetter(t, "OpenLetter", opened, impl.LetterResult{Letter: l})
	scribble(opened.Letter.Text)
	if string(one) != before {
		t.Error("a list that has the key and the letter is changed, or shared")
	}
}

func TestLettersHaveNoRoomBehindTheirEnd(t *testing.T) {
	// What lies behind the end of a list is no part of it: it is neither sealed nor read.
	r := ringOf(5, 5)
	data := impl.SealLetter(r, letterOf(5, 3, 44, 40)).Bytes
	checkLetter(t, "OpenLetter of a shorter list", impl.OpenLetter(r, data[:len(data)-1]), letterCode(impl.ErrSeal))
	checkLetter(t, "ReadHead of a shorter list", impl.ReadHead(data[:10]), letterCode(impl.ErrMany))
	l := letterOf(5, 3, 44, 40)
	l.Text = l.Text[:7]
	checkBlock(t, "SealLetter of a shorter list", l.Text, impl.SealLetter(r, l), wantLetter(t, ringKey(5).Bytes, l))
}

// stageFiveAnswers asks each function of the chapter, the place i of a list at a time.
func stageFiveAnswers(rings []impl.Ring, letters []impl.Letter, i int) []any {
	r, l, other := rings[i%len(rings)], letters[i%len(letters)], letters[i*7%len(letters)]
	sealed := impl.SealLetter(r, l)
	data := wantHead(l.Key, l.Sender, l.Counter)
	if i%3 == 0 {
		data = sealed.Bytes
	}
	out := []any{impl.LetterFault(l), impl.SameLetters(l, other), impl.SameLetters(l, l)}
	for _, got := range []impl.BytesResult{
		sealed, impl.NonceOf(l.Sender, l.Counter), impl.HeadOf(l.Key, l.Sender, l.Counter),
	} {
		out = append(out, got.Code, string(got.Bytes))
	}
	for _, got := range []impl.LetterResult{impl.ReadHead(data), impl.OpenLetter(r, data), impl.OpenLetter(r, sealed.Bytes)} {
		out = append(out, got.Code, letterText(got.Letter))
	}
	return out
}

func TestLettersHangOnArgumentsAlone(t *testing.T) {
	const count = 600
	rings := memoryRings()
	letters := append(rightLetters(2, 5), differentLetters()...)
	var first [count][]any
	for i := range count {
		first[i] = stageFiveAnswers(rings, letters, i)
	}
	for i := count - 1; i >= 0; i-- {
		for k, got := range stageFiveAnswers(rings, letters, i) {
			if got != first[i][k] {
				t.Errorf("answer %d of the arguments %d: %v, and at first %v", k, i, got, first[i][k])
			}
		}
	}
}

func TestLettersAnswerAtEveryArgument(t *testing.T) {
	rings := append(memoryRings(), differentRings()...)
	for _, r := range rings {
		for _, l := range differentLetters() {
			want := wantRingFault(r)
			if want == impl.OK {
				want = wantLetterFault(l)
			}
			if want == impl.OK && placeOf(r, l.Key) < 0 {
				want = impl.ErrNone
			}
			got := impl.SealLetter(r, l)
			if got.Code != want || got.Code != impl.OK && len(got.Bytes) != 0 {
				t.Errorf("SealLetter by %v of %v: %v, want the code %d", r, l, got, want)
			}
			opened := impl.OpenLetter(r, l.Text)
			if opened.Code == impl.OK {
				t.Errorf("OpenLetter by %v opens %v", r, l.Text)
			}
			checkLetter(t, "OpenLetter beside a code", opened, letterCode(opened.Code))
		}
		for _, size := range []int{0, 1, 10, 11, 12, 26, 27, 28, 326, 327, 328, 1000} {
			data := append(headBytes(1, 5, 3, math.MaxInt64), make([]byte, 1000)...)[:size]
			opened := impl.OpenLetter(r, data)
			checkLetter(t, "OpenLetter beside a code", opened, letterCode(opened.Code))
		}
	}
}
