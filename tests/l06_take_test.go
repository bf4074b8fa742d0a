package tests

import (
	"fmt"
	"math"
	"slices"
	"testing"

	"loop.example/g00725/impl"
)

func windowCode(code int64) impl.WindowResult {
	return impl.WindowResult{Code: code}
}

func checkWindow(t *testing.T, name string, got impl.WindowResult, want impl.WindowResult) {
	t.Helper()
	if got.Code != want.Code || windowText(got.Window) != windowText(want.Window) {
		t.Errorf("%s: %v, want %v", name, got, want)
	}
}

func checkInts(t *testing.T, name string, got impl.IntsResult, want impl.IntsResult) {
	t.Helper()
	if got.Code != want.Code || fmt.Sprint(got.List) != fmt.Sprint(want.List) {
		t.Errorf("%s: %v, want %v", name, got, want)
	}
}

// wantTaken is TakeCounter by the document's words: all that is Seen in one list, of which what is too old is left out.
func wantTaken(w impl.Window, n int64) impl.WindowResult {
	fault := wantWindowFault(w)
	switch {
	case fault != impl.OK:
		return windowCode(fault)
	case n < 0 || n > 1000000000:
		return windowCode(impl.ErrRange)
	case slices.Contains(w.Seen, n):
		return windowCode(impl.ErrTaken)
	case n < w.Top-15:
		return windowCode(impl.ErrState)
	}
	out := impl.Window{Top: max(w.Top, n)}
	all := append(slices.Clone(w.Seen), n)
	slices.Sort(all)
	for _, m := range all {
		if m >= out.Top-15 {
			out.Seen = append(out.Seen, m)
		}
	}
	return impl.WindowResult{Window: out}
}

func wantAll(w impl.Window, list []int64) impl.IntsResult {
	if fault := wantWindowFault(w); fault != impl.OK {
		return impl.IntsResult{Code: fault}
	}
	if len(list) > 200 {
		return impl.IntsResult{Code: impl.ErrMany}
	}
	var out impl.IntsResult
	for i, n := range list {
		if got := wantTaken(w, n); got.Code == impl.OK {
			w = got.Window
			out.List = append(out.List, int64(i))
		}
	}
	return out
}

// around are the edges of a number by this Top, and as far out as an int64 can tell.
func around(top int64) []int64 {
	out := append([]int64{999999984, 999999985, 999999999, 1000000000, 1000000001, 1 << 31, 1 << 62}, counters...)
	for n := top - 20; n <= top+20; n++ {
		out = append(out, n)
	}
	return append(out, top+31, top+32, top+1000, math.MinInt64+15, math.MinInt64+16, math.MaxInt64-16, math.MaxInt64-15)
}

func TestTakeCounterOfANewWindow(t *testing.T) {
	for _, n := range []int64{0, 1, 14, 15, 16, 17, 1 << 29, 999999999, impl.MaxCounter} {
		checkWindow(t, "TakeCounter", impl.TakeCounter(impl.NewWindow(), n), impl.WindowResult{Window: windowOf(n, n)})
	}
	for _, n := range []int64{-1, -2, -16, -17, -18, math.MinInt64, math.MinInt64 + 16, 1000000001, 1 << 32, math.MaxInt64} {
		checkWindow(t, "TakeCounter out of bounds", impl.TakeCounter(impl.NewWindow(), n), windowCode(impl.ErrRange))
	}
}

func TestTakeCounterOfNumbersOutOfBounds(t *testing.T) {
	for _, w := range rightWindows() {
		for _, n := range []int64{
			-1, -2, -11, -16, -17, -1000000000, math.MinInt64, math.MinInt64 + 1, math.MinInt64 + 16,
			1000000001, 1000000016, 1 << 32, 1<<32 + 5, math.MaxInt64 - 16, math.MaxInt64 - 1, math.MaxInt64,
		} {
			checkWindow(t, "TakeCounter out of bounds", impl.TakeCounter(w, n), windowCode(impl.ErrRange))
		}
	}
}

func TestTakeCounterOfOneThatIsSeen(t *testing.T) {
	for _, w := range rightWindows() {
		for _, n := range w.Seen {
			checkWindow(t, "TakeCounter of one that is Seen", impl.TakeCounter(w, n), windowCode(impl.ErrTaken))
		}
	}
}

func TestTakeCounterOfOneThatIsTooOld(t *testing.T) {
	for _, row := range []struct {
		w    impl.Window
		n    int64
		want impl.WindowResult
	}{
		{windowOf(40, 40), 24, windowCode(impl.ErrState)}, {windowOf(40, 40), 25, impl.WindowResult{Window: windowOf(40, 25, 40)}},
		{windowOf(40, 40), 23, windowCode(impl.ErrState)}, {windowOf(40, 40), 0, windowCode(impl.ErrState)}, {windowOf(40, 25, 40), 24, windowCode(impl.ErrState)},
		{windowOf(40, 25, 40), 25, windowCode(impl.ErrTaken)}, {windowOf(40, 26, 40), 25, impl.WindowResult{Window: windowOf(40, 25, 26, 40)}},
		{windowOf(16, 16), 0, windowCode(impl.ErrState)}, {windowOf(16, 16), 1, impl.WindowResult{Window: windowOf(16, 1, 16)}},
		{windowOf(15, 15), 0, impl.WindowResult{Window: windowOf(15, 0, 15)}}, {windowOf(15, 15), -1, windowCode(impl.ErrRange)},
		{windowOf(14, 14), 0, impl.WindowResult{Window: windowOf(14, 0, 14)}}, {windowOf(17, 17), 1, windowCode(impl.ErrState)},
		{windowOf(1000000000, 1000000000), 999999984, windowCode(impl.ErrState)}, {windowOf(1000000000, 1000000000), 0, windowCode(impl.ErrState)},
		{windowOf(1000000000, 1000000000), 999999985, impl.WindowResult{Window: windowOf(1000000000, 999999985, 1000000000)}},
	} {
		checkWindow(t, fmt.Sprintf("TakeCounter of %v and %d", row.w, row.n), impl.TakeCounter(row.w, row.n), row.want)
	}
}

func TestTakeCounterAtItsPlace(t *testing.T) {
	for _, row := range []struct {
		w    impl.Window
		n    int64
		want []int64
	}{
		{windowOf(5, 3, 5), 4, []int64{3, 4, 5}}, {windowOf(5, 3, 5), 0, []int64{0, 3, 5}}, {windowOf(5, 3, 5), 2, []int64{2, 3, 5}},
		{windowOf(40, 25, 30, 35, 40), 26, []int64{25, 26, 30, 35, 40}}, {windowOf(40, 25, 30, 35, 40), 39, []int64{25, 30, 35, 39, 40}},
		{windowOf(40, 25, 30, 35, 40), 32, []int64{25, 30, 32, 35, 40}}, {windowOf(1, 1), 0, []int64{0, 1}},
	} {
		checkWindow(t, "TakeCounter between", impl.TakeCounter(row.w, row.n), impl.WindowResult{Window: windowOf(row.w.Top, row.want...)})
	}
	// The one hole of a full window, wherever it is.
	for _, top := range []int64{15, 16, 40, 1000000000} {
		full := windowBehind(top, 1, 2, 3, 4, 5, 6, 7, 8, 9, 10, 11, 12, 13, 14, 15)
		for i := range 15 {
			holed := impl.Window{Top: top, Seen: slices.Delete(slices.Clone(full.Seen), i, i+1)}
			checkWindow(t, "TakeCounter of a hole", impl.TakeCounter(holed, full.Seen[i]), impl.WindowResult{Window: full})
		}
	}
}

func TestTakeCounterAboveTop(t *testing.T) {
	for _, row := range []struct {
		w    impl.Window
		n    int64
		want []int64
	}{
		{windowOf(5, 3, 5), 6, []int64{3, 5, 6}}, {windowOf(5, 3, 5), 18, []int64{3, 5, 18}}, {windowOf(5, 3, 5), 19, []int64{5, 19}},
		{windowOf(5, 3, 5), 20, []int64{5, 20}}, {windowOf(5, 3, 5), 21, []int64{21}}, {windowOf(5, 3, 5), 22, []int64{22}},
		{windowOf(5, 3, 5), 1000000000, []int64{1000000000}}, {windowOf(0, 0), 15, []int64{0, 15}}, {windowOf(0, 0), 16, []int64{16}},
		{windowOf(40, 25, 26, 40), 41, []int64{26, 40, 41}}, {windowOf(40, 25, 26, 40), 42, []int64{40, 42}}, {windowOf(40, 25, 26, 40), 55, []int64{40, 55}},
		{windowOf(40, 25, 26, 40), 56, []int64{56}}, {windowOf(999999999, 999999984, 999999999), 1000000000, []int64{999999999, 1000000000}},
	} {
		checkWindow(t, "TakeCounter above Top", impl.TakeCounter(row.w, row.n), impl.WindowResult{Window: windowOf(row.n, row.want...)})
	}
	// Of a full window the eldest go, one more of them with each number.
	full := windowBehind(40, 1, 2, 3, 4, 5, 6, 7, 8, 9, 10, 11, 12, 13, 14, 15)
	for up := int64(1); up <= 40; up++ {
		want := append(slices.Clone(full.Seen[min(up, 16):]), 40+up)
		checkWindow(t, "TakeCounter above a full window", impl.TakeCounter(full, 40+up), impl.WindowResult{Window: windowOf(40+up, want...)})
	}
}

func TestTakeCounterOfAWrongWindow(t *testing.T) {
	for _, w := range wrongWindows() {
		code := wantWindowFault(w)
		if code == impl.OK {
			t.Fatalf("%v has no fault", w)
		}
		for _, n := range around(5) {
			checkWindow(t, "TakeCounter of a wrong window", impl.TakeCounter(w, n), windowCode(code))
		}
	}
	// The fault is told ahead of each code that n has.
	for _, row := range []struct {
		w    impl.Window
		n    int64
		code int64
	}{
		{windowOf(5), -1, impl.ErrState}, {windowOf(5, 4), 4, impl.ErrState}, {windowOf(40, 39), 3, impl.ErrState}, {windowOf(5), 6, impl.ErrState},
		{windowOf(5, 5, 3), -1, impl.ErrForm}, {windowOf(5, 5, 3), 3, impl.ErrForm}, {windowOf(40, 40, 40), 3, impl.ErrForm}, {windowOf(5, 5, 3), 6, impl.ErrForm},
		{windowOf(5, 9), 9, impl.ErrRange}, {windowOf(1000000001), 3, impl.ErrRange}, {windowOf(-2), 6, impl.ErrRange},
	} {
		checkWindow(t, "TakeCounter of a wrong window", impl.TakeCounter(row.w, row.n), windowCode(row.code))
	}
}

func TestTakeCounterOfManyWindows(t *testing.T) {
	for _, w := range append(append(rightWindows(), wrongWindows()...), differentWindows()...) {
		// By a Top that is out of bounds the numbers around it would overflow.
		for _, n := range around(min(max(w.Top, -1), 1000000001)) {
			got, want := impl.TakeCounter(w, n), wantTaken(w, n)
			checkWindow(t, fmt.Sprintf("TakeCounter of %v and %d", w, n), got, want)
			if got.Code == impl.OK {
				checkWindowFault(t, got.Window, impl.OK)
			}
			if news := impl.IsNews(w, n); news != (want.Code == impl.OK) {
				t.Errorf("IsNews of %v and %d is %v, and the code is %d", w, n, news, want.Code)
			}
		}
	}
}

func TestIsNews(t *testing.T) {
	w := windowOf(40, 25, 30, 40)
	for n, want := range map[int64]bool{
		-1: false, 0: false, 23: false, 24: false, 25: false, 26: true, 29: true, 30: false, 31: true, 39: true, 40: false, 41: true, 56: true,
		1000000000: true, 1000000001: false, math.MaxInt64: false, math.MinInt64: false,
	} {
		if got := impl.IsNews(w, n); got != want {
			t.Errorf("IsNews of %v and %d is %v", w, n, got)
		}
	}
	if !impl.IsNews(impl.NewWindow(), 0) || impl.IsNews(impl.NewWindow(), -1) || !impl.IsNews(impl.NewWindow(), 1000000000) {
		t.Error("IsNews of a new window")
	}
	for _, wrong := range wrongWindows() {
		for _, n := range []int64{-1, 0, 3, 4, 6, 30, 1000000000} {
			if impl.IsNews(wrong, n) {
				t.Errorf("IsNews of the wrong window %v and %d is true", wrong, n)
			}
		}
	}
}

func TestTakeAll(t *testing.T) {
	for _, row := range []struct {
		w    impl.Window
		list []int64
		want []int64
	}{
		{windowOf(-1), nil, nil}, {windowOf(-1), []int64{}, nil}, {windowOf(5, 5), nil, nil}, {windowOf(-1), []int64{7}, []int64{0}},
		{windowOf(-1), []int64{0, 1, 0, 30, 14, 15}, []int64{0, 1, 3, 5}}, {windowOf(-1), []int64{7, 7, 7}, []int64{0}},
		{windowOf(5, 5), []int64{5}, nil}, {windowOf(5, 5), []int64{5, 5, 4, 5, 4}, []int64{2}}, {windowOf(40, 40), []int64{24, 25}, []int64{1}},
		// One with a code turns nothing: neither what is too great nor what is too old.
		{windowOf(5, 5), []int64{1000000001, 4, math.MaxInt64, 3, -1, 2, math.MinInt64, 1}, []int64{1, 3, 5, 7}},
		{windowOf(40, 40), []int64{-1, 24, 40, 25, 25}, []int64{3}}, {windowOf(40, 40), []int64{24, 0, 1, 2}, nil},
		// What was taken along the way counts: it is taken, and it makes others too old.
		{windowOf(5, 5), []int64{20, 4, 5, 6, 21, 5, 6, 7}, []int64{0, 3, 4, 7}}, {windowOf(5, 5), []int64{1000000000, 6, 999999985, 999999984}, []int64{0, 2}},
		{windowOf(-1), []int64{3, 2, 1, 0, 3, 2, 1, 0, 4}, []int64{0, 1, 2, 3, 8}}, {windowOf(-1), []int64{1000000000, 1000000000, 1000000001}, []int64{0}},
		// A number that was Seen, and is no more, is too old all the same.
		{windowOf(5, 5), []int64{21, 5}, []int64{0}}, {windowOf(5, 5), []int64{100, 5, 100, 84, 85, 85}, []int64{0, 4}},
	} {
		checkInts(t, fmt.Sprintf("TakeAll of %v and %v", row.w, row.list), impl.TakeAll(row.w, row.list), impl.IntsResult{List: row.want})
		checkInts(t, "by the document's words", wantAll(row.w, row.list), impl.IntsResult{List: row.want})
	}
}

// countersUp are so many, from first on; by step they rise, fall or stay.
func countersUp(count int, first int64, step int64) []int64 {
	out := make([]int64, count)
	for i := range out {
		out[i] = first + int64(i)*step
	}
	return out
}

func TestTakeAllOfTooMany(t *testing.T) {
	for _, count := range []int{199, 200, 201, 202, 1000} {
		for _, list := range [][]int64{
			countersUp(count, 0, 1), countersUp(count, 7, 0), countersUp(count, 5000, -1), countersUp(count, -3, 1), countersUp(count, 3, 20), countersUp(count, -1, 0),
		} {
			got := impl.TakeAll(impl.NewWindow(), list)
			checkInts(t, fmt.Sprintf("TakeAll of %d", count), got, wantAll(impl.NewWindow(), list))
			if (got.Code == impl.ErrMany) != (count > 200) {
				t.Errorf("TakeAll of %d has the code %d", count, got.Code)
			}
		}
	}
	checkInts(t, "TakeAll of 200", impl.TakeAll(impl.NewWindow(), countersUp(200, 0, 1)), impl.IntsResult{List: countersUp(200, 0, 1)})
	checkInts(t, "TakeAll of 200 that fall", impl.TakeAll(impl.NewWindow(), countersUp(200, 5000, -1)), impl.IntsResult{List: countersUp(16, 0, 1)})
	checkInts(t, "TakeAll of 200 alike", impl.TakeAll(impl.NewWindow(), countersUp(200, 9, 0)), impl.IntsResult{List: []int64{0}})
}

func TestTakeAllOfAWrongWindow(t *testing.T) {
	for _, w := range wrongWindows() {
		for _, list := range [][]int64{nil, {}, {3}, {6, 7, 8}, {-1}, countersUp(200, 0, 1), countersUp(201, 0, 1), countersUp(201, -1, 0)} {
			checkInts(t, fmt.Sprintf("TakeAll of the wrong window %v", w), impl.TakeAll(w, list), impl.IntsResult{Code: wantWindowFault(w)})
		}
	}
}

func TestTakeAllIsTakeCounterOneByOne(t *testing.T) {
	for _, w := range append(rightWindows(), wrongWindows()...) {
		list := around(min(max(w.Top, -1), 1000000001))
		for turn := range 7 {
			// Gone through by steps, so that each number has others ahead of it each time.
			var mixed []int64
			for i := range min(len(list), 200) {
				mixed = append(mixed, list[(i*(turn+2)+turn)%len(list)])
			}
			checkInts(t, fmt.Sprintf("TakeAll of %v and %v", w, mixed), impl.TakeAll(w, mixed), wantAll(w, mixed))
		}
	}
}

// TestCountersAreTakenOnce holds a window against all that was ever taken, in whatever order it comes.
func TestCountersAreTakenOnce(t *testing.T) {
	for _, spread := range []uint64{3, 10, 16, 17, 25, 60} {
		w, all, top := impl.NewWindow(), map[int64]bool{}, int64(-1)
		state := spread
		for step := range int64(3000) {
			state = state*6364136223846793005 + 1442695040888963407
			n := step/3 - int64(spread)/2 + int64(state>>33%spread)
			isNews := n >= 0 && !all[n] && n > top-16
			got := impl.TakeCounter(w, n)
			if (got.Code == impl.OK) != isNews || impl.IsNews(w, n) != isNews {
				t.Fatalf("TakeCounter of %v and %d: %v", w, n, got)
			}
			if !isNews {
				continue
			}
			all[n], top, w = true, max(top, n), got.Window
			var want []int64
			for m := max(0, top-15); m <= top; m++ {
				if all[m] {
					want = append(want, m)
				}
			}
			checkWindow(t, "the window then", got, impl.WindowResult{Window: windowOf(top, want...)})
			checkWindowFault(t, w, impl.OK)
			if again := impl.TakeCounter(w, n).Code; again != impl.ErrTaken {
				t.Fatalf("TakeCounter of %d once more: the code is %d", n, again)
			}
		}
		for n := range all {
			if impl.IsNews(w, n) {
				t.Errorf("%d was taken, and is news", n)
			}
		}
	}
}
