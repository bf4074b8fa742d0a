package tests

import (
	"fmt"
	"math"
	"slices"
	"testing"

	"loop.example/g00725/impl"
)

func waitOf(kind int64, seq int64, node int64, left int64) impl.Wait {
	return impl.Wait{Kind: kind, Seq: seq, Node: node, Left: left}
}

func suspectWait(node int64, inc int64, left int64) impl.Wait {
	return impl.Wait{Kind: 3, Node: node, Inc: inc, Left: left}
}

func helpWait(seq int64, node int64, left int64, asker int64, old int64) impl.Wait {
	return impl.Wait{Kind: 4, Seq: seq, Node: node, Left: left, For: asker, Old: old}
}

// rightWaits are of each Kind, with the least numbers, the greatest ones, and such as are between.
func rightWaits() []impl.Wait {
	var out []impl.Wait
	for kind := int64(1); kind <= 4; kind++ {
		out = append(out, impl.Wait{Kind: kind, Left: 1}, impl.Wait{Kind: kind, Seq: 1000000, Node: 3, Inc: 1000000, Left: 9},
			impl.Wait{Kind: kind, Seq: 7, Node: 1, Inc: 2, Left: 3}, impl.Wait{Kind: kind, Seq: 8, Node: 2, Left: 2}, impl.Wait{Kind: kind, Seq: 7, Node: 2, Inc: 2, Left: 1})
	}
	return append(out, helpWait(7, 1, 2, 3, 1000000), helpWait(0, 3, 1, 1, 7), helpWait(7, 1, 1, 0, 7), impl.Wait{Kind: 4, Seq: 1000000, Node: 3, Inc: 1000000, Left: 9, For: 3, Old: 1000000})
}

// formWaits have ErrForm alone, or beside ErrRange.
func formWaits() []impl.Wait {
	var out []impl.Wait
	for _, kind := range []int64{0, 5, -1, 6, 1 << 32, 1<<32 + 1, math.MinInt64, math.MaxInt64} {
		out = append(out, waitOf(kind, 7, 1, 2), impl.Wait{Kind: kind}, helpWait(7, 1, 2, 1, 5), impl.Wait{Kind: kind, Seq: -1, Node: 4, Inc: -1, Left: 10, For: 4, Old: -1})
		out[len(out)-2].Kind = kind
	}
	for kind := int64(1); kind <= 3; kind++ {
		for _, n := range []int64{1, 3, -1, 4, 1000000, 1000001, 1 << 32, math.MinInt64, math.MaxInt64} {
			out = append(out, impl.Wait{Kind: kind, Left: 1, For: n}, impl.Wait{Kind: kind, Left: 1, Old: n}, impl.Wait{Kind: kind, Left: 1, For: n, Old: n},
				impl.Wait{Kind: kind, For: n}, impl.Wait{Kind: kind, Seq: -1, Left: 1, Old: n})
		}
	}
	return out
}

// rangeWaits have ErrRange alone.
func rangeWaits() []impl.Wait {
	var out []impl.Wait
	for kind := int64(1); kind <= 4; kind++ {
		out = append(out, impl.Wait{Kind: kind}, waitOf(kind, 7, 1, 10), waitOf(kind, 7, 1, -1), waitOf(kind, 1000001, 1, 2), waitOf(kind, -1, 1, 2), waitOf(kind, 7, 4, 2),
			waitOf(kind, 7, -1, 2), impl.Wait{Kind: kind, Inc: 1000001, Left: 1}, impl.Wait{Kind: kind, Inc: -1, Left: 1}, impl.Wait{Kind: kind, Seq: -1, Node: -1, Inc: -1, Left: -1})
		for _, n := range []int64{1 << 32, -1 << 32, math.MinInt64, math.MaxInt64} {
			out = append(out, waitOf(kind, n, 1, 2), waitOf(kind, 7, n, 2), waitOf(kind, 7, 1, n), impl.Wait{Kind: kind, Inc: n, Left: 1})
		}
	}
	for _, n := range []int64{-1, 1000001, 1 << 32, math.MinInt64, math.MaxInt64} {
		out = append(out, helpWait(7, 1, 2, n, 5), helpWait(7, 1, 2, 1, n), helpWait(7, 1, 2, n, n))
	}
	return append(out, helpWait(7, 1, 2, 4, 5))
}

func manyWaits(count int) []impl.Wait {
	var out []impl.Wait
	right := rightWaits()
	for i := range count {
		out = append(out, right[i*5%len(right)])
	}
	return out
}

// rightWaitLists are lists of waits without a fault.
func rightWaitLists() [][]impl.Wait {
	out := [][]impl.Wait{nil, {}, manyWaits(2), manyWaits(3), manyWaits(7), manyWaits(39), manyWaits(40), make([]impl.Wait, 0, 9)}
	for i, w := range rightWaits() {
		out = append(out, []impl.Wait{w}, []impl.Wait{w, w}, slices.Concat(manyWaits(i), []impl.Wait{w}, manyWaits(5)))
	}
	for left := int64(1); left <= 9; left++ {
		out = append(out, []impl.Wait{waitOf(1, left, 1, left), suspectWait(2, left, 10-left), waitOf(2, left, 3, left), helpWait(7, 0, left, 3, left), waitOf(1, 7, 2, 1)})
	}
	return out
}

// wrongWaitLists have each fault, and more than one.
func wrongWaitLists() [][]impl.Wait {
	out := [][]impl.Wait{manyWaits(41), manyWaits(42), manyWaits(80), manyWaits(300), make([]impl.Wait, 41), make([]impl.Wait, 5000), {{}}, make([]impl.Wait, 40)}
	for i, w := range append(formWaits(), rangeWaits()...) {
		out = append(out, []impl.Wait{w}, slices.Concat(manyWaits(i%9), []impl.Wait{w}, manyWaits(i%5)), append(manyWaits(39), w), append(manyWaits(40), w))
	}
	return out
}

// wantWaitFault asks one wait, code by code, as the document names them.
func wantWaitFault(w impl.Wait) int64 {
	if w.Kind != 1 && w.Kind != 2 && w.Kind != 3 && w.Kind != 4 {
		return impl.ErrForm
	}
	if w.Kind != 4 && (w.For != 0 || w.Old != 0) {
		return impl.ErrForm
	}
	return rangeOr(isBetween(0, w.Seq, 1000000) && isBetween(0, w.Node, 3) && isBetween(0, w.Inc, 1000000) && isBetween(1, w.Left, 9) &&
		isBetween(0, w.For, 3) && isBetween(0, w.Old, 1000000))
}

func wantWaitsFault(list []impl.Wait) int64 {
	if len(list) > 40 {
		return impl.ErrMany
	}
	for _, w := range list {
		if code := wantWaitFault(w); code != impl.OK {
			return code
		}
	}
	return impl.OK
}

func checkWaitsFault(t *testing.T, list []impl.Wait, code int64) {
	t.Helper()
	if got := impl.WaitsFault(list); got != code {
		t.Errorf("WaitsFault of %v = %d, want %d", list, got, code)
	}
	if want := wantWaitsFault(list); want != code {
		t.Errorf("by the document's words it is %d of %v, not %d", want, list, code)
	}
}

// checkWaitFault asks it of the wait alone, and among others: as the first one, in their midst, and as the last one.
func checkWaitFault(t *testing.T, w impl.Wait, code int64) {
	t.Helper()
	checkWaitsFault(t, []impl.Wait{w}, code)
	for _, ahead := range []int{0, 1, 4, 35} {
		checkWaitsFault(t, slices.Concat(manyWaits(ahead), []impl.Wait{w}, manyWaits(4)), code)
	}
	checkWaitsFault(t, append(manyWaits(39), w), code)
}

func TestRuleConstants(t *testing.T) {
	got := [7]int64{impl.WaitPing, impl.WaitAsk, impl.WaitSuspect, impl.WaitHelp, impl.MaxWaits, impl.MaxLeft, impl.NoNode}
	if got != [7]int64{1, 2, 3, 4, 40, 9, -1} {
		t.Errorf("the constants are %v", got)
	}
}

func TestWaitsWithoutFault(t *testing.T) {
	for _, list := range rightWaitLists() {
		checkWaitsFault(t, list, impl.OK)
	}
	for _, w := range rightWaits() {
		checkWaitFault(t, w, impl.OK)
	}
	// They need not rise, and may be alike.
	checkWaitsFault(t, []impl.Wait{waitOf(2, 9, 3, 9), waitOf(1, 8, 2, 8), waitOf(1, 8, 2, 8), suspectWait(0, 0, 1), suspectWait(0, 0, 1)}, impl.OK)
	checkWaitsFault(t, slices.Repeat([]impl.Wait{waitOf(1, 7, 1, 2)}, 40), impl.OK)
}

func TestWaitsFaultHowManyWaits(t *testing.T) {
	for count := range 45 {
		code := int64(impl.OK)
		if count > 40 {
			code = impl.ErrMany
		}
		checkWaitsFault(t, manyWaits(count), code)
		checkWaitsFault(t, slices.Repeat([]impl.Wait{helpWait(7, 1, 2, 3, 4)}, count), code)
	}
	for _, count := range []int{80, 255, 256, 257, 296, 5000, 65536 + 40} {
		checkWaitsFault(t, manyWaits(count), impl.ErrMany)
		checkWaitsFault(t, make([]impl.Wait, count), impl.ErrMany)
	}
	// Ahead of whatever fault one of them has, wherever it stands.
	for _, w := range append(formWaits(), rangeWaits()...) {
		checkWaitsFault(t, append(manyWaits(40), w), impl.ErrMany)
		checkWaitsFault(t, append([]impl.Wait{w}, manyWaits(40)...), impl.ErrMany)
		checkWaitsFault(t, slices.Repeat([]impl.Wait{w}, 41), impl.ErrMany)
	}
}

func TestWaitsFaultOfKinds(t *testing.T) {
	for _, kind := range append(boundsOf(1, 4), 5, 6) {
		code := int64(impl.ErrForm)
		if 1 <= kind && kind <= 4 {
			code = impl.OK
		}
		checkWaitFault(t, waitOf(kind, 7, 1, 2), code)
		checkWaitFault(t, impl.Wait{Kind: kind, Seq: 1000000, Node: 3, Inc: 1000000, Left: 9}, code)
	}
	for _, w := range formWaits() {
		checkWaitFault(t, w, impl.ErrForm)
	}
	for _, w := range rangeWaits() {
		checkWaitFault(t, w, impl.ErrRange)
	}
}

func TestWaitsFaultOfForAndOld(t *testing.T) {
	for kind := int64(1); kind <= 3; kind++ {
		for _, n := range append(boundsOf(0, 3), boundsOf(0, 1000000)...) {
			code := int64(impl.ErrForm)
			if n == 0 {
				code = impl.OK
			}
			for _, w := range []impl.Wait{{For: n}, {Old: n}, {For: n, Old: n}} {
				w.Kind, w.Seq, w.Node, w.Inc, w.Left = kind, 7, 1, 2, 3
				checkWaitFault(t, w, code)
			}
		}
	}
	for _, n := range boundsOf(0, 3) {
		checkWaitFault(t, helpWait(7, 1, 2, n, 5), rangeOr(0 <= n && n <= 3))
		checkWaitFault(t, helpWait(7, 1, 2, n, 0), rangeOr(0 <= n && n <= 3))
	}
	for _, n := range boundsOf(0, 1000000) {
		checkWaitFault(t, helpWait(7, 1, 2, 3, n), rangeOr(0 <= n && n <= 1000000))
		checkWaitFault(t, helpWait(7, 1, 2, 0, n), rangeOr(0 <= n && n <= 1000000))
	}
	// The bounds of the one are not those of the other.
	checkWaitFault(t, helpWait(7, 1, 2, 3, 4), impl.OK)
	checkWaitFault(t, helpWait(7, 1, 2, 4, 3), impl.ErrRange)
}

func TestWaitsFaultOfEachNumber(t *testing.T) {
	for kind := int64(1); kind <= 4; kind++ {
		// Beside the least of the other numbers, and beside the greatest ones.
		for _, other := range []impl.Wait{{Kind: kind, Left: 1}, {Kind: kind, Seq: 1000000, Node: 3, Inc: 1000000, Left: 9}} {
			check := func(low int64, high int64, put func(w *impl.Wait, n int64)) {
				t.Helper()
				for _, n := range append(boundsOf(low, high), low+2) {
					w := other
					put(&w, n)
					checkWaitFault(t, w, rangeOr(low <= n && n <= high))
				}
			}
			check(0, 1000000, func(w *impl.Wait, n int64) { w.Seq = n })
			check(0, 3, func(w *impl.Wait, n int64) { w.Node = n })
			check(0, 1000000, func(w *impl.Wait, n int64) { w.Inc = n })
			check(1, 9, func(w *impl.Wait, n int64) { w.Left = n })
		}
	}
}

func TestWaitsFaultOneByOne(t *testing.T) {
	form, wrong, both := impl.Wait{Kind: 1, Left: 1, For: 1}, impl.Wait{Kind: 1}, impl.Wait{Kind: 2, Left: 10, Old: -1}
	right := helpWait(7, 1, 2, 3, 4)
	for _, row := range []struct {
		list []impl.Wait
		code int64
	}{
		{[]impl.Wait{form, wrong}, impl.ErrForm}, {[]impl.Wait{wrong, form}, impl.ErrRange}, {[]impl.Wait{right, form, wrong}, impl.ErrForm},
		{[]impl.Wait{right, wrong, form}, impl.ErrRange}, {[]impl.Wait{right, wrong, right, form}, impl.ErrRange}, {[]impl.Wait{form, right, right, wrong}, impl.ErrForm},
		{[]impl.Wait{both}, impl.ErrForm}, {[]impl.Wait{right, both, wrong}, impl.ErrForm}, {[]impl.Wait{wrong, both}, impl.ErrRange}, {[]impl.Wait{both, wrong}, impl.ErrForm},
		{[]impl.Wait{{}}, impl.ErrForm}, {[]impl.Wait{wrong, {}}, impl.ErrRange}, {[]impl.Wait{right, {}}, impl.ErrForm}, {[]impl.Wait{{}, right}, impl.ErrForm},
		{append([]impl.Wait{wrong}, slices.Repeat([]impl.Wait{form}, 39)...), impl.ErrRange}, {append([]impl.Wait{form}, slices.Repeat([]impl.Wait{wrong}, 39)...), impl.ErrForm},
		{append(slices.Repeat([]impl.Wait{right}, 38), wrong, form), impl.ErrRange}, {append(slices.Repeat([]impl.Wait{right}, 38), form, wrong), impl.ErrForm},
	} {
		checkWaitsFault(t, row.list, row.code)
	}
	for _, list := range wrongWaitLists() {
		if wantWaitsFault(list) == impl.OK {
			t.Fatalf("%v has no fault", list)
		}
		checkWaitsFault(t, list, wantWaitsFault(list))
	}
}

// differentWaits are any lists of waits, right and wrong ones, of which no two are the same.
func differentWaits() [][]impl.Wait {
	a, b, c := impl.Wait{Kind: 4, Seq: 2, Node: 3, Inc: 5, Left: 6, For: 1, Old: 8}, waitOf(1, 7, 1, 2), waitOf(1, 7, 1, 1)
	out := [][]impl.Wait{
		nil, {{}}, {{}, {}}, {{}, {}, {}}, {a}, {b}, {c}, {a, a}, {a, b}, {b, a}, {a, c}, {c, a}, {b, c}, {a, b, c}, {a, c, b}, {c, b, a}, {a, b, {}}, {{}, a, b},
		manyWaits(39), manyWaits(40), manyWaits(41), make([]impl.Wait, 40), make([]impl.Wait, 41), make([]impl.Wait, 1000), make([]impl.Wait, 1001),
	}
	for _, n := range []int64{1, 2, -1, 1 << 32, 1<<32 + 1, math.MinInt64, math.MaxInt64} {
		for _, w := range []impl.Wait{{Kind: n}, {Seq: n}, {Node: n}, {Inc: n}, {Left: n}, {For: n}, {Old: n}} {
			out = append(out, []impl.Wait{w}, []impl.Wait{w, a}, []impl.Wait{a, w}, []impl.Wait{b, w, c})
		}
	}
	return out
}

func TestSameWaits(t *testing.T) {
	left, right := differentWaits(), differentWaits()
	for i, a := range left {
		for j, b := range right {
			if got := impl.SameWaits(a, b); got != (i == j) {
				t.Errorf("SameWaits of %v and %v = %v", a, b, got)
			}
		}
	}
}

func TestSameWaitsOfEachField(t *testing.T) {
	turns := []func(w *impl.Wait){
		func(w *impl.Wait) { w.Kind++ }, func(w *impl.Wait) { w.Seq++ }, func(w *impl.Wait) { w.Node++ }, func(w *impl.Wait) { w.Inc++ },
		func(w *impl.Wait) { w.Left++ }, func(w *impl.Wait) { w.For++ }, func(w *impl.Wait) { w.Old++ },
	}
	for _, list := range append(rightWaitLists(), wrongWaitLists()...) {
		if len(list) > 50 {
			continue
		}
		for at := range list {
			for i, turn := range turns {
				other := slices.Clone(list)
				turn(&other[at])
				if impl.SameWaits(list, other) || impl.SameWaits(other, list) || !impl.SameWaits(other, slices.Clone(other)) {
					t.Fatalf("SameWaits of %v and of that with the field %d of %d turned", list, i, at)
				}
			}
		}
	}
}

func TestWaitsOfNilAndEmpty(t *testing.T) {
	lists := [][]impl.Wait{nil, {}, make([]impl.Wait, 0, 9), manyWaits(2)[:0]}
	for _, a := range lists {
		for _, b := range lists {
			if !impl.SameWaits(a, b) {
				t.Errorf("SameWaits of %#v and %#v is false", a, b)
			}
		}
		if impl.SameWaits(a, make([]impl.Wait, 1)) || impl.SameWaits(make([]impl.Wait, 1), a) {
			t.Errorf("SameWaits of %#v and a wait is true", a)
		}
		checkWaitsFault(t, a, impl.OK)
		for _, got := range []impl.WaitsResult{impl.AgeWaits(a), impl.ClearWaits(a, 0), impl.ClearWaits(a, 1000000)} {
			if waitsText(got) != fmt.Sprint(impl.OK, a, a) {
				t.Errorf("of no waits it is told: %v", got)
			}
		}
	}
}
