package tests

import (
	"fmt"
	"slices"
	"testing"

	"loop.example/g00725/impl"
)

// guardedNumbers lays a list in the midst of a longer one, so that a write behind its end or ahead of its start is seen.
func guardedNumbers(list []int64) (whole []int64, piece []int64) {
	whole = countersUp(len(list)+40, 900, 3)
	copy(whole[20:], list)
	return whole, whole[20 : 20+len(list)]
}

// scribbleNumbers writes over all that an answer can reach, the room behind its end, too.
func scribbleNumbers(answer []int64) {
	answer = answer[:cap(answer)]
	for i := range answer {
		answer[i] = -answer[i] - 7
	}
}

// checkNumbers asks twice, and writes over one answer and over all arguments: nothing else may turn by that. What is
// told of an answer is its text, and the one list that it has.
func checkNumbers(t *testing.T, name string, w impl.Window, list []int64, ask func(w impl.Window, list []int64) (string, []int64)) {
	t.Helper()
	wholeSeen, seen := guardedNumbers(w.Seen)
	wholeList, piece := guardedNumbers(list)
	beforeSeen, beforeList := slices.Clone(wholeSeen), slices.Clone(wholeList)
	w.Seen = seen
	text, told := ask(w, piece)
	again, other := ask(w, piece)
	want := slices.Clone(other)
	if text != again || !slices.Equal(told, want) {
		t.Errorf("%s: asked again it is another answer", name)
	}
	scribbleNumbers(told)
	if !slices.Equal(wholeSeen, beforeSeen) || !slices.Equal(wholeList, beforeList) {
		t.Errorf("%s: an argument is changed, or shared", name)
	}
	if !slices.Equal(other, want) {
		t.Errorf("%s: two answers share memory", name)
	}
	scribbleNumbers(wholeSeen)
	scribbleNumbers(wholeList)
	if !slices.Equal(other, want) {
		t.Errorf("%s: the answer turns with an argument", name)
	}
}

func TestTakingLeavesItsArguments(t *testing.T) {
	for _, w := range append(rightWindows(), wrongWindows()...) {
		top := min(max(w.Top, -1), 1000000001)
		for _, n := range around(top) {
			checkNumbers(t, fmt.Sprintf("TakeCounter of %v and %d", w, n), w, nil, func(w impl.Window, _ []int64) (string, []int64) {
				got := impl.TakeCounter(w, n)
				return fmt.Sprint(got.Code, got.Window.Top), got.Window.Seen
			})
		}
		for _, list := range [][]int64{nil, {}, {3}, {top}, {top + 1, top + 3, top, top - 1, top + 30}, countersUp(200, top+1, 1), countersUp(201, top, 1)} {
			checkNumbers(t, fmt.Sprintf("TakeAll of %v and %v", w, list), w, list, func(w impl.Window, list []int64) (string, []int64) {
				got := impl.TakeAll(w, list)
				return fmt.Sprint(got.Code), got.List
			})
		}
	}
}

func TestWindowsThatAreAskedStay(t *testing.T) {
	for _, a := range append(rightWindows(), differentWindows()...) {
		for _, b := range differentWindows() {
			wholeA, seenA := guardedNumbers(a.Seen)
			wholeB, seenB := guardedNumbers(b.Seen)
			beforeA, beforeB := slices.Clone(wholeA), slices.Clone(wholeB)
			a.Seen, b.Seen = seenA, seenB
			impl.WindowFault(a)
			impl.SameWindows(a, b)
			impl.SameWindows(a, a)
			impl.IsNews(a, 7)
			impl.IsNews(a, 1000000000)
			if !slices.Equal(wholeA, beforeA) || !slices.Equal(wholeB, beforeB) {
				t.Fatalf("WindowFault, SameWindows or IsNews of %v and %v changes an argument", a, b)
			}
		}
	}
}

func TestWindowsOfListsThatAreShared(t *testing.T) {
	// What is taken are the numbers of the window itself, and those that lie behind its end.
	whole := []int64{25, 30, 40, 41, 30, 60, 44, 45}
	before := slices.Clone(whole)
	w := impl.Window{Top: 40, Seen: whole[:3]}
	checkInts(t, "TakeAll of what is Seen", impl.TakeAll(w, w.Seen), impl.IntsResult{})
	checkInts(t, "TakeAll of what is Seen, and more", impl.TakeAll(w, whole), impl.IntsResult{List: []int64{3, 5, 7}})
	checkWindow(t, "TakeCounter", impl.TakeCounter(w, 42), impl.WindowResult{Window: windowOf(42, 30, 40, 42)})
	if !impl.SameWindows(w, impl.Window{Top: 40, Seen: before[:3]}) || !slices.Equal(whole, before) {
		t.Errorf("a list that has the window and the numbers is changed: %v", whole)
	}
}

func TestWindowsHaveNoRoomBehindTheirEnd(t *testing.T) {
	// What lies behind the end of a list is no part of it.
	seen := []int64{30, 40, 35, 99, -5}
	checkWindowFault(t, impl.Window{Top: 40, Seen: seen[:2]}, impl.OK)
	checkWindowFault(t, impl.Window{Top: 40, Seen: seen[:1]}, impl.ErrState)
	checkWindowFault(t, impl.Window{Top: -1, Seen: seen[:0]}, impl.OK)
	if !impl.IsNews(impl.Window{Top: 40, Seen: seen[:2]}, 35) || !impl.SameWindows(impl.Window{Top: 40, Seen: seen[:2]}, windowOf(40, 30, 40)) {
		t.Error("what lies behind the end of Seen is Seen")
	}
	checkInts(t, "TakeAll of a shorter list", impl.TakeAll(impl.NewWindow(), seen[:2]), impl.IntsResult{List: []int64{0, 1}})
	checkInts(t, "TakeAll of a list with room", impl.TakeAll(impl.NewWindow(), make([]int64, 1, 500)), impl.IntsResult{List: []int64{0}})
}

func TestNewWindowsAreNewMemory(t *testing.T) {
	first := impl.NewWindow()
	scribbleNumbers(first.Seen)
	first.Top, first.Seen = 7, append(first.Seen, 7)
	second := impl.NewWindow()
	if windowText(second) != windowText(windowOf(-1)) {
		t.Errorf("NewWindow turns with another one: %v", second)
	}
}

// stageSixAnswers asks each function of the chapter, the place i of a list at a time.
func stageSixAnswers(windows []impl.Window, i int) []any {
	w, other := windows[i%len(windows)], windows[i*7%len(windows)]
	numbers := around(min(max(w.Top, -1), 1000000001))
	n := numbers[i%len(numbers)]
	taken, all := impl.TakeCounter(w, n), impl.TakeAll(w, numbers[i%len(numbers):])
	return []any{
		impl.WindowFault(w), windowText(impl.NewWindow()), taken.Code, windowText(taken.Window), impl.IsNews(w, n),
		all.Code, fmt.Sprint(all.List), impl.SameWindows(w, other), impl.SameWindows(w, w),
	}
}

func TestWindowsHangOnArgumentsAlone(t *testing.T) {
	const count = 3000
	windows := append(append(rightWindows(), wrongWindows()...), differentWindows()...)
	var first [count][]any
	for i := range count {
		first[i] = stageSixAnswers(windows, i)
	}
	for i := count - 1; i >= 0; i-- {
		for k, got := range stageSixAnswers(windows, i) {
			if got != first[i][k] {
				t.Errorf("answer %d of the arguments %d: %v, and at first %v", k, i, got, first[i][k])
			}
		}
	}
}
