package tests

import (
	"fmt"
	"slices"
	"testing"

	"loop.example/g00725/impl"
)

// guardedWaits lays a list in the midst of a longer one, so that a write behind its end or ahead of its start is seen.
func guardedWaits(list []impl.Wait) (whole []impl.Wait, piece []impl.Wait) {
	for i := range int64(len(list) + 90) {
		whole = append(whole, impl.Wait{Kind: -i, Seq: 900 + i, Left: -3, Old: i})
	}
	copy(whole[45:], list)
	return whole, whole[45 : 45+len(list)]
}

// scribbleWaits writes over all that an answer can reach, the room behind its end, too.
func scribbleWaits(answer []impl.Wait) {
	answer = answer[:cap(answer)]
	for i, w := range answer {
		answer[i] = impl.Wait{Kind: -7, Seq: -w.Seq - 1, Node: -w.Node - 1, Inc: -5, Left: -w.Left - 1, For: 9, Old: -w.Old - 1}
	}
}

// checkWaitsMemory asks twice, and writes over one answer, list by list, and over the argument: nothing else may turn by that.
func checkWaitsMemory(t *testing.T, name string, list []impl.Wait, ask func(list []impl.Wait) impl.WaitsResult) {
	t.Helper()
	whole, piece := guardedWaits(list)
	before := slices.Clone(whole)
	first, second := ask(piece), ask(piece)
	want := waitsText(second)
	if waitsText(first) != want {
		t.Errorf("%s: asked again it is another answer", name)
	}
	expired := fmt.Sprint(first.Expired)
	scribbleWaits(first.Waits)
	if fmt.Sprint(first.Expired) != expired {
		t.Errorf("%s: what is over turns with what goes on", name)
	}
	waits := fmt.Sprint(first.Waits)
	scribbleWaits(first.Expired)
	if fmt.Sprint(first.Waits) != waits {
		t.Errorf("%s: what goes on turns with what is over", name)
	}
	// Whoever puts more behind one list puts it into neither the other one nor the argument.
	_, _ = append(second.Waits, impl.Wait{Seq: -4}), append(second.Expired, impl.Wait{Seq: -5})
	if !slices.Equal(whole, before) {
		t.Errorf("%s: an argument is changed, or shared", name)
	}
	if waitsText(second) != want {
		t.Errorf("%s: two answers share memory", name)
	}
	scribbleWaits(whole)
	if waitsText(second) != want {
		t.Errorf("%s: the answer turns with an argument", name)
	}
}

func TestWaitingLeavesItsArguments(t *testing.T) {
	for _, list := range append(rightWaitLists(), wrongWaitLists()...) {
		checkWaitsMemory(t, fmt.Sprintf("AgeWaits of %v", list), list, impl.AgeWaits)
		for _, seq := range []int64{-1, 0, 7, 8, 1000000, 1000001} {
			checkWaitsMemory(t, fmt.Sprintf("ClearWaits of %v and %d", list, seq), list, func(list []impl.Wait) impl.WaitsResult {
				return impl.ClearWaits(list, seq)
			})
		}
	}
}

func TestDecidingLeavesItsArguments(t *testing.T) {
	for _, view := range append(rightViews(), wrongViews()...) {
		for n := int64(-1); n <= 4; n++ {
			checkViews(t, fmt.Sprintf("HelpersFor of %v and %d", view, n), view, nil, func(view []impl.Claim, _ []impl.Claim) (func() string, func()) {
				return ofInts(impl.HelpersFor(view, n, 3-n, 4))
			})
			checkViews(t, fmt.Sprintf("what is told of %v and %d", view, n), view, nil, func(view []impl.Claim, _ []impl.Claim) (func() string, func()) {
				text := fmt.Sprint(impl.NextTarget(view, n, 3-n), impl.SuspectBy(view, n), impl.BuryBy(view, suspectWait(n, 1, 1)), impl.BuryBy(view, waitOf(1, 7, n, 1)))
				return func() string { return text }, func() {}
			})
		}
	}
}

func TestWaitsThatAreAskedStay(t *testing.T) {
	for _, a := range append(rightWaitLists(), differentWaits()...) {
		for _, b := range differentWaits()[:40] {
			wholeA, pieceA := guardedWaits(a)
			wholeB, pieceB := guardedWaits(b)
			beforeA, beforeB := slices.Clone(wholeA), slices.Clone(wholeB)
			impl.WaitsFault(pieceA)
			impl.SameWaits(pieceA, pieceB)
			impl.SameWaits(pieceA, pieceA)
			if !slices.Equal(wholeA, beforeA) || !slices.Equal(wholeB, beforeB) {
				t.Fatalf("WaitsFault or SameWaits of %v and %v changes an argument", a, b)
			}
		}
	}
}

func TestWaitsHaveNoRoomBehindTheirEnd(t *testing.T) {
	// What lies behind the end of a list is no part of it.
	list := append(manyWaits(40), waitOf(1, 7, 1, 1), impl.Wait{}, waitOf(1, 7, 1, 1))
	checkWaitsFault(t, list[:40], impl.OK)
	checkWaitsFault(t, list[:41], impl.ErrMany)
	checkWaitsFault(t, list[39:41], impl.OK)
	checkWaitsFault(t, list[39:42], impl.ErrForm)
	ping := waitOf(1, 7, 1, 1)
	few := []impl.Wait{ping, ping, ping}
	checkWaits(t, "ClearWaits behind the end", impl.ClearWaits(few[:1], 7), impl.WaitsResult{Expired: few[:1]})
	checkWaits(t, "AgeWaits behind the end", impl.AgeWaits(few[:2]), impl.WaitsResult{Expired: []impl.Wait{waitOf(1, 7, 1, 0), waitOf(1, 7, 1, 0)}})
	if impl.SameWaits(few[:1], few) || !impl.SameWaits(few[:2], few[1:]) {
		t.Error("what lies behind the end of a list counts")
	}
	view := []impl.Claim{aClaim(0, 5, 0, 1), aClaim(1, 5, 1, 2), aClaim(2, 5, 0, 3)}
	checkInt(t, "NextTarget behind the end", impl.NextTarget(view[:2], 0, 1), impl.IntResult{Value: 1})
	checkInts(t, "HelpersFor behind the end", impl.HelpersFor(view[:2], 1, 3, 4), impl.IntsResult{List: []int64{0}})
	checkClaim(t, "SuspectBy behind the end", impl.SuspectBy(view[:2], 2), claimCode(impl.ErrNone))
	checkClaim(t, "BuryBy behind the end", impl.BuryBy(view[:1], suspectWait(1, 5, 1)), claimCode(impl.ErrNone))
}

func TestDecisionsAnswerNothingBesideACode(t *testing.T) {
	checkZero := func(name string, code int64, isZero bool) {
		t.Helper()
		if code != impl.OK && !isZero {
			t.Errorf("%s: beside the code %d there is more", name, code)
		}
	}
	for i, list := range append(rightWaitLists(), wrongWaitLists()...) {
		for _, got := range []impl.WaitsResult{impl.AgeWaits(list), impl.ClearWaits(list, int64(i%3)*1000000-500000)} {
			checkZero("waits", got.Code, len(got.Waits) == 0 && len(got.Expired) == 0)
		}
	}
	for _, view := range append(rightViews(), wrongViews()...) {
		for n := int64(-1); n <= 4; n++ {
			next, helpers := impl.NextTarget(view, n, 3-n), impl.HelpersFor(view, 3-n, n, 4)
			checkZero("NextTarget", next.Code, next.Value == 0)
			checkZero("HelpersFor", helpers.Code, len(helpers.List) == 0)
			for _, got := range []impl.ClaimResult{impl.SuspectBy(view, n), impl.BuryBy(view, suspectWait(n, 5, 1)), impl.RefuteBy(aClaim(1, 5, 0, 7), aClaim(n, 1000000, 2, 7))} {
				checkZero("a claim", got.Code, got == claimCode(got.Code))
			}
		}
	}
}

// stageNineAnswers asks each function of the chapter, the place i of a list at a time.
func stageNineAnswers(views [][]impl.Claim, lists [][]impl.Wait, i int) []any {
	view, list, other, n := views[i%len(views)], lists[i%len(lists)], lists[i*7%len(lists)], int64(i%6-1)
	w := slices.Concat(list, []impl.Wait{suspectWait(n, 5, 1)})[0]
	own, c := aClaim(1, int64(i%13), int64(i%3), 7), aClaim(int64(i%7/5+1), int64(i*5%13), int64(i*2%3), int64(i%5))
	return []any{
		impl.NextTarget(view, int64(i%5), n), fmt.Sprint(impl.HelpersFor(view, n, int64(i%4), int64(i%6))), impl.WaitsFault(list), waitsText(impl.AgeWaits(list)),
		waitsText(impl.ClearWaits(list, n+3)), impl.RefuteBy(own, c), impl.SuspectBy(view, n), impl.BuryBy(view, w), impl.SameWaits(list, other), impl.SameWaits(list, list),
	}
}

func TestDecisionsHangOnArgumentsAlone(t *testing.T) {
	const count = 3000
	views, lists := append(rightViews(), wrongViews()...), append(append(rightWaitLists(), differentWaits()...), wrongWaitLists()...)
	var first [count][]any
	for i := range count {
		first[i] = stageNineAnswers(views, lists, i)
	}
	for i := count - 1; i >= 0; i-- {
		for k, got := range stageNineAnswers(views, lists, i) {
			if got != first[i][k] {
				t.Errorf("answer %d of the arguments %d: %v, and at first %v", k, i, got, first[i][k])
			}
		}
	}
}
