package tests

import (
	"fmt"
	"slices"
	"testing"

	"loop.example/g00725/impl"
)

// guardedView lays a list in the midst of a longer one, so that a write behind its end or ahead of its start is seen.
func guardedView(view []impl.Claim) (whole []impl.Claim, piece []impl.Claim) {
	for i := range int64(len(view) + 12) {
		whole = append(whole, aClaim(-i, 900+i, -3, i))
	}
	copy(whole[6:], view)
	return whole, whole[6 : 6+len(view)]
}

// scribbleView writes over all that an answer can reach, the room behind its end, too.
func scribbleView(answer []impl.Claim) {
	answer = answer[:cap(answer)]
	for i := range answer {
		answer[i] = aClaim(-7, -answer[i].Inc-1, 9, -answer[i].Meta-1)
	}
}

// checkViews asks twice, and writes over one answer and over all arguments: nothing else may turn by that. What is told
// of an answer is its text, written anew from the lists that it has.
func checkViews(t *testing.T, name string, a []impl.Claim, b []impl.Claim, ask func(a []impl.Claim, b []impl.Claim) (text func() string, scribble func())) {
	t.Helper()
	wholeA, pieceA := guardedView(a)
	wholeB, pieceB := guardedView(b)
	beforeA, beforeB := slices.Clone(wholeA), slices.Clone(wholeB)
	first, scribbleFirst := ask(pieceA, pieceB)
	second, _ := ask(pieceA, pieceB)
	want := second()
	if first() != want {
		t.Errorf("%s: asked again it is another answer", name)
	}
	scribbleFirst()
	if !slices.Equal(wholeA, beforeA) || !slices.Equal(wholeB, beforeB) {
		t.Errorf("%s: an argument is changed, or shared", name)
	}
	if second() != want {
		t.Errorf("%s: two answers share memory", name)
	}
	scribbleView(wholeA)
	scribbleView(wholeB)
	if second() != want {
		t.Errorf("%s: the answer turns with an argument", name)
	}
}

func ofView(got impl.ViewResult) (func() string, func()) {
	return func() string { return viewText(got) }, func() { scribbleView(got.View) }
}

func ofInts(got impl.IntsResult) (func() string, func()) {
	return func() string { return fmt.Sprint(got.Code, got.List) }, func() { scribbleNumbers(got.List) }
}

// memoryViews are lists of claims, right and wrong ones, few enough to be asked in pairs.
func memoryViews() [][]impl.Claim {
	out := [][]impl.Claim{nil, {}, {{}}, aView(1, 1), aView(0, 4), make([]impl.Claim, 5), aView(2, 0), {aClaim(1, 12, 2, 5)}, aView(0, 1, 2, 3)}
	for set := 1; set < 16; set += 2 {
		out = append(out, claimsBy(set, int64(set)), claimsBy(15-set, int64(set)+1))
	}
	return out
}

func TestMergingLeavesItsArguments(t *testing.T) {
	for _, a := range memoryViews() {
		for _, b := range memoryViews() {
			checkViews(t, fmt.Sprintf("MergeViews of %v and %v", a, b), a, b, func(a []impl.Claim, b []impl.Claim) (func() string, func()) {
				return ofView(impl.MergeViews(a, b))
			})
			for _, c := range b {
				checkViews(t, fmt.Sprintf("MergeClaim of %v and %v", a, c), a, nil, func(a []impl.Claim, _ []impl.Claim) (func() string, func()) {
					return ofView(impl.MergeClaim(a, c))
				})
			}
		}
	}
}

func TestFindingLeavesItsArguments(t *testing.T) {
	for _, view := range append(rightViews(), wrongViews()...) {
		for n := int64(-1); n <= 4; n++ {
			checkViews(t, fmt.Sprintf("FindClaim of %v and %d", view, n), view, nil, func(view []impl.Claim, _ []impl.Claim) (func() string, func()) {
				return ofView(impl.FindClaim(view, n))
			})
			checkViews(t, fmt.Sprintf("NodesIn of %v and %d", view, n), view, nil, func(view []impl.Claim, _ []impl.Claim) (func() string, func()) {
				return ofInts(impl.NodesIn(view, n))
			})
		}
	}
}

func TestViewsThatAreAskedStay(t *testing.T) {
	for _, a := range append(memoryViews(), wrongViews()...) {
		for _, b := range memoryViews() {
			checkViews(t, fmt.Sprintf("what is asked of %v and %v", a, b), a, b, func(a []impl.Claim, b []impl.Claim) (func() string, func()) {
				text := fmt.Sprint(impl.ViewFault(a), impl.ViewFault(b), impl.IsAbove(a, b), impl.IsAbove(b, a), impl.SameViews(a, b), impl.SameViews(a, a))
				return func() string { return text }, func() {}
			})
		}
	}
}

func TestViewsOfListsThatAreShared(t *testing.T) {
	// b is what lies behind a, or a itself; what is merged writes into neither.
	whole := []impl.Claim{aClaim(0, 5, 0, 1), aClaim(2, 5, 0, 2), aClaim(1, 5, 0, 3), aClaim(2, 6, 0, 4), aClaim(3, 5, 0, 5)}
	before := slices.Clone(whole)
	checkView(t, "MergeViews of what lies behind it", impl.MergeViews(whole[:2], whole[2:]), toldView(true, before[0], before[2], before[3], before[4]))
	checkView(t, "MergeViews of what has one of both", impl.MergeViews(whole[:2], whole[1:2]), toldView(false, before[:2]...))
	checkView(t, "MergeViews of itself", impl.MergeViews(whole[2:], whole[2:]), toldView(false, before[2:]...))
	checkView(t, "MergeClaim of one behind it", impl.MergeClaim(whole[:2], whole[2]), toldView(true, before[0], before[2], before[1]))
	checkView(t, "MergeClaim of one that beats", impl.MergeClaim(whole[:2], whole[3]), toldView(true, before[0], before[3]))
	if !slices.Equal(whole, before) {
		t.Errorf("a list that has both views is changed: %v", whole)
	}
	// What was merged, and nothing was turned by it, is new memory all the same.
	same := impl.MergeViews(whole[:2], nil)
	scribbleView(same.View)
	scribbleView(impl.MergeViews(nil, whole[2:]).View)
	scribbleView(impl.MergeClaim(whole[:2], whole[0]).View)
	scribbleView(impl.FindClaim(whole[:2], 2).View)
	if !slices.Equal(whole, before) {
		t.Errorf("an answer shares memory with a view: %v", whole)
	}
}

func TestViewsHaveNoRoomBehindTheirEnd(t *testing.T) {
	// What lies behind the end of a list is no part of it.
	list := []impl.Claim{aClaim(0, 5, 0, 1), aClaim(1, 5, 2, 2), aClaim(3, 5, 2, 3), aClaim(3, 9, 9, 9), {}, {}}
	checkViewFault(t, list[:3], impl.OK)
	checkViewFault(t, list[:4], impl.ErrRange)
	checkViewFault(t, list[:5], impl.ErrMany)
	checkView(t, "FindClaim behind the end", impl.FindClaim(list[:2], 3), viewCode(impl.ErrNone))
	checkInts(t, "NodesIn behind the end", impl.NodesIn(list[:2], 2), impl.IntsResult{List: []int64{1}})
	checkView(t, "MergeViews behind the end", impl.MergeViews(list[:1], list[1:2]), toldView(true, list[0], list[1]))
	if impl.IsAbove(list[:2], list[:3]) || !impl.IsAbove(list[:3], list[:2]) || impl.SameViews(list[:2], list[:3]) || !impl.SameViews(list[:2], slices.Clone(list[:2])) {
		t.Error("what lies behind the end of a view counts")
	}
}

func TestViewsAnswerNothingBesideACode(t *testing.T) {
	check := func(name string, got impl.ViewResult) {
		t.Helper()
		if got.Code != impl.OK && (len(got.View) != 0 || got.Changed) {
			t.Errorf("%s: %v", name, got)
		}
	}
	for _, a := range append(rightViews(), wrongViews()...) {
		for _, b := range wrongViews() {
			check("MergeViews", impl.MergeViews(a, b))
			check("MergeViews", impl.MergeViews(b, a))
			check("MergeClaim", impl.MergeClaim(a, b[0]))
			check("FindClaim", impl.FindClaim(a, b[0].Node))
			if got := impl.NodesIn(a, b[0].Status); got.Code != impl.OK && len(got.List) != 0 {
				t.Errorf("NodesIn: %v", got)
			}
		}
	}
}

// stageEightAnswers asks each function of the chapter, the place i of a list at a time.
func stageEightAnswers(views [][]impl.Claim, i int) []any {
	a, b, n := views[i%len(views)], views[i*7%len(views)], int64(i%6-1)
	c := aClaim(n, int64(i%13), int64(i%3), int64(i%5))
	return []any{
		impl.ViewFault(a), impl.Beats(slices.Concat(a, []impl.Claim{c})[0], slices.Concat(b, []impl.Claim{c})[0]), viewText(impl.FindClaim(a, n)), viewText(impl.MergeClaim(a, c)),
		viewText(impl.MergeViews(a, b)), impl.IsAbove(a, b), fmt.Sprint(impl.NodesIn(a, n)), impl.SameViews(a, b), impl.SameViews(a, a),
	}
}

func TestViewsHangOnArgumentsAlone(t *testing.T) {
	const count = 3000
	views := append(append(rightViews(), wrongViews()...), differentViews()...)
	var first [count][]any
	for i := range count {
		first[i] = stageEightAnswers(views, i)
	}
	for i := count - 1; i >= 0; i-- {
		for k, got := range stageEightAnswers(views, i) {
			if got != first[i][k] {
				t.Errorf("answer %d of the arguments %d: %v, and at first %v", k, i, got, first[i][k])
			}
		}
	}
}
