package tests

import (
	"fmt"
	"math"
	"slices"
	"testing"

	"loop.example/g00725/impl"
)

func windowOf(top int64, seen ...int64) impl.Window {
	return impl.Window{Top: top, Seen: seen}
}

// windowBehind has Top, and of the numbers behind it those that are so far away.
func windowBehind(top int64, away ...int64) impl.Window {
	seen := []int64{top}
	for _, a := range away {
		seen = append(seen, top-a)
	}
	slices.Sort(seen)
	return impl.Window{Top: top, Seen: seen}
}

// windowText tells all fields; an empty list and nil are told alike.
func windowText(w impl.Window) string {
	return fmt.Sprint(w.Top, w.Seen)
}

// wantWindowFault asks code by code, as the document names them.
func wantWindowFault(w impl.Window) int64 {
	if w.Top < -1 || w.Top > 1000000000 {
		return impl.ErrRange
	}
	for _, n := range w.Seen {
		if n < 0 || n > w.Top || n < w.Top-15 {
			return impl.ErrRange
		}
	}
	for i := range w.Seen {
		if i > 0 && w.Seen[i] <= w.Seen[i-1] {
			return impl.ErrForm
		}
	}
	if w.Top != -1 && (len(w.Seen) == 0 || w.Seen[len(w.Seen)-1] != w.Top) {
		return impl.ErrState
	}
	return impl.OK
}

func checkWindowFault(t *testing.T, w impl.Window, code int64) {
	t.Helper()
	if got := impl.WindowFault(w); got != code {
		t.Errorf("WindowFault of %v = %d, want %d", w, got, code)
	}
	if want := wantWindowFault(w); want != code {
		t.Errorf("the fault of %v is %d by the document's words, and %d here", w, want, code)
	}
}

// rightWindows have no fault: the edges of Top, few and many that are Seen, holes at either end.
func rightWindows() []impl.Window {
	out := []impl.Window{
		windowOf(-1), windowOf(0, 0), windowOf(1, 1), windowOf(1, 0, 1), windowOf(5, 3, 5), windowOf(14, 0, 14), windowOf(15, 0, 15),
		windowOf(15, 0, 1, 2, 3, 4, 5, 6, 7, 8, 9, 10, 11, 12, 13, 14, 15), windowOf(16, 1, 16), windowOf(17, 2, 3, 17),
	}
	for _, top := range []int64{16, 17, 40, 1<<29 + 3, 999999999, 1000000000} {
		out = append(out,
			windowBehind(top), windowBehind(top, 15), windowBehind(top, 1), windowBehind(top, 14, 15), windowBehind(top, 3, 8),
			windowBehind(top, 1, 3, 5, 7, 9, 11, 13, 15), windowBehind(top, 2, 4, 6, 8, 10, 12, 14),
			windowBehind(top, 1, 2, 3, 4, 5, 6, 7, 8, 9, 10, 11, 12, 13, 14, 15),
		)
	}
	return out
}

// wrongWindows have each fault, and more than one.
func wrongWindows() []impl.Window {
	return []impl.Window{
		windowOf(-2), windowOf(math.MinInt64), windowOf(math.MinInt64 + 15), windowOf(1000000001), windowOf(math.MaxInt64),
		windowOf(-2, 3), windowOf(1000000001, 1000000001), windowOf(math.MaxInt64, math.MaxInt64), windowOf(math.MinInt64, math.MinInt64),
		windowOf(-1, -1), windowOf(-1, 0), windowOf(-1, 5, 3), windowOf(5, -1, 5), windowOf(5, 6), windowOf(40, 24, 40), windowOf(40, 40, 24),
		windowOf(5, math.MinInt64, 5), windowOf(5, 5, math.MaxInt64), windowOf(5, 3, 3, 9),
		windowOf(5, 5, 5), windowOf(5, 5, 3), windowOf(5, 3, 3, 5), windowOf(5, 4, 3, 5), windowOf(5, 3, 3), windowOf(40, 25, 40, 39),
		windowOf(0), windowOf(5), windowOf(1000000000), windowOf(5, 4), windowOf(40, 25), windowOf(40, 25, 30, 39), {},
	}
}

func TestWindowConstant(t *testing.T) {
	if impl.WindowSize != 16 {
		t.Errorf("WindowSize is %d", impl.WindowSize)
	}
}

func TestWindowsWithoutFault(t *testing.T) {
	for _, w := range rightWindows() {
		checkWindowFault(t, w, impl.OK)
	}
}

func TestWindowFaultOfTop(t *testing.T) {
	for _, top := range []int64{
		-2, -3, -16, -17, -1000000000, math.MinInt64, math.MinInt64 + 1, math.MinInt64 + 15, math.MinInt64 + 16, math.MinInt64 + 17,
		1000000001, 1000000002, 1000000016, 1 << 32, 1<<32 + 5, 1 << 62, math.MaxInt64 - 16, math.MaxInt64 - 1, math.MaxInt64,
	} {
		// Whatever is Seen, and how: Top is asked first.
		checkWindowFault(t, windowOf(top), impl.ErrRange)
		checkWindowFault(t, windowOf(top, top), impl.ErrRange)
		checkWindowFault(t, windowOf(top, 5, 3), impl.ErrRange)
		checkWindowFault(t, windowOf(top, 0), impl.ErrRange)
	}
	for _, top := range []int64{0, 1, 15, 16, 17, 999999999, impl.MaxCounter} {
		checkWindowFault(t, windowOf(top, top), impl.OK)
		checkWindowFault(t, windowOf(top), impl.ErrState)
	}
	checkWindowFault(t, windowOf(-1), impl.OK)
	checkWindowFault(t, windowOf(-1, []int64{}...), impl.OK)
	checkWindowFault(t, impl.Window{}, impl.ErrState)
}

func TestWindowFaultOfNoTopWithSeen(t *testing.T) {
	for _, n := range []int64{-1, 0, 1, -2, -16, -17, -18, 15, 1000000000, math.MinInt64, math.MaxInt64} {
		checkWindowFault(t, windowOf(-1, n), impl.ErrRange)
		checkWindowFault(t, windowOf(-1, n, n), impl.ErrRange)
	}
}

func TestWindowFaultOfOneThatIsSeen(t *testing.T) {
	for _, row := range []struct {
		top, n int64
		code   int64
	}{
		{5, -1, impl.ErrRange}, {5, 0, impl.OK}, {5, 4, impl.OK}, {5, 6, impl.ErrRange}, {5, -10, impl.ErrRange}, {5, -11, impl.ErrRange},
		{0, -1, impl.ErrRange}, {0, 1, impl.ErrRange}, {0, -16, impl.ErrRange},
		{14, -1, impl.ErrRange}, {14, 0, impl.OK}, {15, -1, impl.ErrRange}, {15, 0, impl.OK}, {16, 0, impl.ErrRange}, {16, 1, impl.OK},
		{17, 0, impl.ErrRange}, {17, 1, impl.ErrRange}, {17, 2, impl.OK}, {40, 23, impl.ErrRange}, {40, 24, impl.ErrRange}, {40, 25, impl.OK},
		{40, 39, impl.OK}, {40, 41, impl.ErrRange}, {40, 0, impl.ErrRange},
		{1000000000, 999999984, impl.ErrRange}, {1000000000, 999999985, impl.OK}, {1000000000, 1000000001, impl.ErrRange}, {1000000000, 0, impl.ErrRange},
		{5, math.MinInt64, impl.ErrRange}, {5, math.MinInt64 + 16, impl.ErrRange}, {5, math.MaxInt64, impl.ErrRange}, {5, math.MaxInt64 - 16, impl.ErrRange},
		{1000000000, math.MinInt64, impl.ErrRange}, {1000000000, math.MaxInt64, impl.ErrRange}, {5, 1 << 32, impl.ErrRange}, {5, 1<<32 + 4, impl.ErrRange},
	} {
		// It stands where it would rise, and one that is out of bounds is told wherever it stands.
		seen := []int64{row.n, row.top}
		if row.n > row.top {
			seen = []int64{row.top, row.n}
		}
		checkWindowFault(t, windowOf(row.top, seen...), row.code)
		if row.code == impl.ErrRange {
			checkWindowFault(t, windowOf(row.top, row.n), impl.ErrRange)
			checkWindowFault(t, windowOf(row.top, row.n, row.n), impl.ErrRange)
			checkWindowFault(t, windowOf(row.top, row.top, row.n), impl.ErrRange)
			checkWindowFault(t, windowOf(row.top, row.n, row.top), impl.ErrRange)
			checkWindowFault(t, windowOf(row.top, row.top, row.top, row.n), impl.ErrRange)
		}
	}
}

func TestWindowFaultOfSeenThatDoesNotRise(t *testing.T) {
	for _, w := range []impl.Window{
		windowOf(5, 5, 5), windowOf(5, 3, 3, 5), windowOf(5, 5, 3), windowOf(5, 4, 3, 5), windowOf(5, 0, 1, 2, 4, 3, 5), windowOf(0, 0, 0),
		windowOf(40, 26, 25, 40), windowOf(40, 25, 40, 40), windowOf(40, 25, 25), windowOf(1000000000, 1000000000, 1000000000),
		windowOf(1000000000, 1000000000, 999999985), windowOf(15, 0, 0, 15),
	} {
		checkWindowFault(t, w, impl.ErrForm)
	}
	// Of numbers that rise there is no room for more than WindowSize.
	for _, count := range []int{17, 100, 5000} {
		seen := make([]int64, count)
		for i := range seen {
			seen[i] = 25 + int64(i*15/(count-1))
		}
		checkWindowFault(t, windowOf(40, seen...), impl.ErrForm)
		seen[count/2] = 24
		checkWindowFault(t, windowOf(40, seen...), impl.ErrRange)
	}
}

func TestWindowFaultOfTopThatIsNotTheLastOne(t *testing.T) {
	for _, w := range []impl.Window{
		windowOf(0), windowOf(5), windowOf(1000000000), windowOf(5, 4), windowOf(5, 0, 4), windowOf(40, 25), windowOf(40, 39),
		windowOf(40, 25, 26, 27, 28, 29, 30, 31, 32, 33, 34, 35, 36, 37, 38, 39), windowOf(1000000000, 999999999), windowOf(1, 0), {},
	} {
		checkWindowFault(t, w, impl.ErrState)
	}
}

func TestWindowFaultInItsOrder(t *testing.T) {
	for _, row := range []struct {
		w    impl.Window
		code int64
	}{
		// ErrRange and ErrForm, ErrRange and ErrState, all three; ErrForm and ErrState.
		{windowOf(5, 3, 3, 6), impl.ErrRange}, {windowOf(5, 5, 3, -1), impl.ErrRange}, {windowOf(5, 4, 6), impl.ErrRange}, {windowOf(40, 24, 39), impl.ErrRange},
		{windowOf(5, 4, 4, 9), impl.ErrRange}, {windowOf(40, 39, 24), impl.ErrRange}, {windowOf(1000000001, 5, 5), impl.ErrRange}, {windowOf(-2, 5, 5), impl.ErrRange},
		{windowOf(5, 3, 3), impl.ErrForm}, {windowOf(5, 4, 3), impl.ErrForm}, {windowOf(5, 5, 4), impl.ErrForm}, {windowOf(40, 30, 40, 35), impl.ErrForm},
	} {
		checkWindowFault(t, row.w, row.code)
	}
}

func TestWindowFaultOfManyWindows(t *testing.T) {
	// All lists of up to three numbers around the edges of each Top.
	for _, top := range []int64{-2, -1, 0, 1, 15, 16, 17, 1000000000, 1000000001} {
		around := []int64{-1, 0, 1, top - 17, top - 16, top - 15, top - 1, top, top + 1}
		checkWindowFault(t, windowOf(top), wantWindowFault(windowOf(top)))
		for _, a := range around {
			checkWindowFault(t, windowOf(top, a), wantWindowFault(windowOf(top, a)))
			for _, b := range around {
				checkWindowFault(t, windowOf(top, a, b), wantWindowFault(windowOf(top, a, b)))
				for _, c := range around {
					checkWindowFault(t, windowOf(top, a, b, c), wantWindowFault(windowOf(top, a, b, c)))
				}
			}
		}
	}
}

func TestNewWindow(t *testing.T) {
	w := impl.NewWindow()
	if w.Top != -1 || len(w.Seen) != 0 {
		t.Errorf("NewWindow is %v", w)
	}
	checkWindowFault(t, w, impl.OK)
	if !impl.SameWindows(w, windowOf(-1)) || impl.SameWindows(w, impl.Window{}) {
		t.Error("NewWindow is not the one with Top -1")
	}
}

// differentWindows are any windows, right and wrong ones, of which no two are the same.
func differentWindows() []impl.Window {
	return []impl.Window{
		{}, windowOf(-1), windowOf(1), windowOf(-2), windowOf(math.MinInt64), windowOf(math.MaxInt64), windowOf(1 << 32), windowOf(-1, -1), windowOf(-1, 0),
		windowOf(0, 0), windowOf(0, 0, 0), windowOf(5, 5), windowOf(5, 4), windowOf(4, 5), windowOf(4, 4), windowOf(5, 3, 5), windowOf(5, 5, 3), windowOf(5, 5, 5),
		windowOf(5, 3, 4, 5), windowOf(5, 2, 4, 5), windowOf(5, 3, 4, 6), windowOf(6, 3, 4, 5), windowOf(5, 3, 4), windowOf(5, 4, 5), windowOf(5, 0, 3, 4, 5),
		windowOf(5, 3, 1<<32+4, 5), windowOf(5, math.MinInt64), windowOf(5, math.MaxInt64), windowOf(40, 25, 40), windowOf(40, 24, 40), windowOf(40, 40),
		windowOf(1000000000, 1000000000), windowOf(1000000001, 1000000001), {Seen: make([]int64, 1000)}, {Seen: make([]int64, 1001)},
	}
}

func TestSameWindows(t *testing.T) {
	left, right := differentWindows(), differentWindows()
	for i, a := range left {
		for j, b := range right {
			if got := impl.SameWindows(a, b); got != (i == j) {
				t.Errorf("SameWindows(%v, %v) = %v", a, b, got)
			}
		}
	}
}

func TestSameWindowsOfNilAndEmpty(t *testing.T) {
	lists := [][]int64{nil, {}, make([]int64, 0, 9), []int64{1, 2}[:0]}
	for _, top := range []int64{-1, 0, 7} {
		for _, a := range lists {
			for _, b := range lists {
				if !impl.SameWindows(impl.Window{Top: top, Seen: a}, impl.Window{Top: top, Seen: b}) {
					t.Errorf("SameWindows of the lists %#v and %#v is false", a, b)
				}
				if impl.SameWindows(impl.Window{Top: top, Seen: a}, impl.Window{Top: top + 1, Seen: b}) {
					t.Errorf("SameWindows of the lists %#v and %#v, and other Tops, is true", a, b)
				}
			}
			if impl.WindowFault(impl.Window{Top: top, Seen: a}) != impl.WindowFault(impl.Window{Top: top}) {
				t.Errorf("WindowFault tells %#v from nil", a)
			}
		}
	}
	if impl.SameWindows(windowOf(0), windowOf(0, 0)) || impl.SameWindows(windowOf(0, 0), windowOf(0)) {
		t.Error("nothing and a zero are the same")
	}
}
