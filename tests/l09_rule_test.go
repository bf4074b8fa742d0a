package tests

import (
	"fmt"
	"math"
	"slices"
	"testing"

	"loop.example/g00725/impl"
)

func checkInt(t *testing.T, name string, got impl.IntResult, want impl.IntResult) {
	t.Helper()
	if got != want {
		t.Errorf("%s: %v, want %v", name, got, want)
	}
}

func hasNode(view []impl.Claim, node int64) bool {
	return slices.ContainsFunc(view, func(c impl.Claim) bool { return c.Node == node })
}

// wantNext is NextTarget by the document's words: from the node behind last up, and then from the lowest one on.
func wantNext(view []impl.Claim, self int64, last int64) impl.IntResult {
	if code := wantViewFault(view); code != impl.OK {
		return impl.IntResult{Code: code}
	}
	if self < 0 || self > 3 || last < -1 || last > 3 {
		return impl.IntResult{Code: impl.ErrRange}
	}
	for _, from := range []int64{last + 1, 0} {
		for node := from; node <= 3; node++ {
			if node != self && hasNode(view, node) {
				return impl.IntResult{Value: node}
			}
		}
	}
	return impl.IntResult{Code: impl.ErrNone}
}

func TestNextTarget(t *testing.T) {
	for _, row := range []struct {
		nodes      []int64
		self, last int64
		want       int64 // -1: there is none
	}{
		// All nodes: last NoNode, each one, self, and the greatest one.
		{[]int64{0, 1, 2, 3}, 0, -1, 1}, {[]int64{0, 1, 2, 3}, 0, 0, 1}, {[]int64{0, 1, 2, 3}, 0, 1, 2}, {[]int64{0, 1, 2, 3}, 0, 2, 3}, {[]int64{0, 1, 2, 3}, 0, 3, 1},
		{[]int64{0, 1, 2, 3}, 1, -1, 0}, {[]int64{0, 1, 2, 3}, 1, 0, 2}, {[]int64{0, 1, 2, 3}, 1, 1, 2}, {[]int64{0, 1, 2, 3}, 1, 2, 3}, {[]int64{0, 1, 2, 3}, 1, 3, 0},
		{[]int64{0, 1, 2, 3}, 3, -1, 0}, {[]int64{0, 1, 2, 3}, 3, 1, 2}, {[]int64{0, 1, 2, 3}, 3, 2, 0}, {[]int64{0, 1, 2, 3}, 3, 3, 0},
		// last is not in the view: between others, below all, above all of it.
		{[]int64{0, 1, 3}, 0, 2, 3}, {[]int64{0, 2, 3}, 3, 1, 2}, {[]int64{1, 3}, 3, 0, 1}, {[]int64{2, 3}, 0, 0, 2}, {[]int64{2, 3}, 0, 1, 2}, {[]int64{0, 1}, 0, 2, 1},
		{[]int64{0, 1}, 0, 3, 1}, {[]int64{0, 1, 2}, 1, 3, 0}, {[]int64{1, 2}, 1, 3, 2}, {[]int64{0, 1, 2}, 0, 3, 1},
		// self is not in the view.
		{[]int64{0, 1}, 3, 0, 1}, {[]int64{0, 1}, 3, 1, 0}, {[]int64{1, 2}, 0, -1, 1}, {[]int64{1, 2}, 0, 2, 1}, {[]int64{3}, 0, -1, 3}, {[]int64{3}, 0, 3, 3}, {[]int64{0}, 3, 3, 0},
		// self is the only one above last, or the lowest one.
		{[]int64{0, 1, 2}, 2, 1, 0}, {[]int64{0, 1, 3}, 3, 1, 0}, {[]int64{0, 1, 3}, 3, 2, 0}, {[]int64{0, 2}, 0, 2, 2}, {[]int64{0, 2}, 2, 0, 0}, {[]int64{1, 3}, 1, 3, 3},
		// There is none but self, or none at all.
		{nil, 0, -1, -1}, {nil, 3, 3, -1}, {[]int64{0}, 0, -1, -1}, {[]int64{0}, 0, 0, -1}, {[]int64{0}, 0, 3, -1}, {[]int64{3}, 3, -1, -1}, {[]int64{3}, 3, 2, -1}, {[]int64{2}, 2, 3, -1},
	} {
		want := impl.IntResult{Value: row.want}
		if row.want < 0 {
			want = impl.IntResult{Code: impl.ErrNone}
		}
		// Whatever their Status is.
		for seed := range int64(3) {
			view := aView(row.nodes...)
			for i := range view {
				view[i].Status = (int64(i) + seed) % 3
			}
			checkInt(t, fmt.Sprintf("NextTarget of %v, %d, %d", view, row.self, row.last), impl.NextTarget(view, row.self, row.last), want)
			checkInt(t, "by the document's words", wantNext(view, row.self, row.last), want)
		}
	}
	checkInt(t, "NextTarget of an empty list", impl.NextTarget([]impl.Claim{}, 2, 1), impl.IntResult{Code: impl.ErrNone})
}

func TestNextTargetOfManyViews(t *testing.T) {
	for _, view := range append(rightViews(), wrongViews()...) {
		for _, self := range append(boundsOf(0, 3), 2) {
			for _, last := range append(boundsOf(-1, 3), 0, 1, 4, math.MinInt64+1) {
				checkInt(t, fmt.Sprintf("NextTarget of %v, %d, %d", view, self, last), impl.NextTarget(view, self, last), wantNext(view, self, last))
			}
		}
	}
}

func TestNextTargetInItsOrder(t *testing.T) {
	for _, row := range []struct {
		view       []impl.Claim
		self, last int64
		code       int64
	}{
		// self, last, and both beyond their bounds; ErrRange ahead of ErrNone.
		{aView(0, 1), -1, 0, impl.ErrRange}, {aView(0, 1), 4, 0, impl.ErrRange}, {aView(0, 1), 0, -2, impl.ErrRange}, {aView(0, 1), 0, 4, impl.ErrRange}, {aView(0, 1), 4, 4, impl.ErrRange},
		{nil, -1, -1, impl.ErrRange}, {nil, 4, 0, impl.ErrRange}, {nil, 0, -2, impl.ErrRange}, {nil, 0, 4, impl.ErrRange}, {aView(0), 0, 4, impl.ErrRange}, {aView(3), 3, -2, impl.ErrRange},
		{aView(0, 1), math.MinInt64, 0, impl.ErrRange}, {aView(0, 1), math.MaxInt64, 0, impl.ErrRange}, {aView(0, 1), 0, math.MinInt64, impl.ErrRange}, {aView(0, 1), 0, math.MaxInt64, impl.ErrRange},
		{aView(0, 1), 1 << 32, 0, impl.ErrRange}, {aView(0, 1), 0, 1 << 32, impl.ErrRange},
		// A fault of the view ahead of both.
		{aView(1, 1), 4, 0, impl.ErrForm}, {aView(1, 0), 0, 4, impl.ErrForm}, {make([]impl.Claim, 5), -1, -2, impl.ErrMany}, {aView(0, 0), 0, 0, impl.ErrForm}, {aView(4), 0, -1, impl.ErrRange},
		{make([]impl.Claim, 2), 0, -1, impl.ErrForm}, {aView(3, 3), 3, 4, impl.ErrForm},
	} {
		checkInt(t, fmt.Sprintf("NextTarget of %v, %d, %d", row.view, row.self, row.last), impl.NextTarget(row.view, row.self, row.last), impl.IntResult{Code: row.code})
	}
}

// TestWhoeverAsksAsksAllOthers holds the promise: one after the other all others are asked, each one once a turn, and
// then it begins anew; from wherever it began.
func TestWhoeverAsksAsksAllOthers(t *testing.T) {
	for _, view := range rightViews() {
		for self := range int64(4) {
			var others []int64
			for _, c := range view {
				if c.Node != self {
					others = append(others, c.Node)
				}
			}
			if len(others) == 0 {
				continue
			}
			for last := int64(-1); last <= 3; last++ {
				var asked []int64
				for at := last; len(asked) < 3*len(others); {
					next := impl.NextTarget(view, self, at)
					if next.Code != impl.OK {
						t.Fatalf("NextTarget of %v, %d, %d: %v", view, self, at, next)
					}
					asked, at = append(asked, next.Value), next.Value
				}
				for turn := range 2 * len(others) {
					round := slices.Sorted(slices.Values(asked[turn : turn+len(others)]))
					if !slices.Equal(round, others) {
						t.Fatalf("in the view %v %d asks, behind %d, %v", view, self, last, asked)
					}
				}
				if last == -1 && !slices.Equal(asked[:len(others)], others) {
					t.Errorf("in the view %v %d asks at first %v", view, self, asked)
				}
			}
		}
	}
}

// wantHelpers is HelpersFor by the document's words.
func wantHelpers(view []impl.Claim, self int64, target int64, most int64) impl.IntsResult {
	if code := wantViewFault(view); code != impl.OK {
		return impl.IntsResult{Code: code}
	}
	if self < 0 || self > 3 || target < 0 || target > 3 || most < 0 || most > 4 {
		return impl.IntsResult{Code: impl.ErrRange}
	}
	alive := slices.DeleteFunc(wantNodes(view, 0).List, func(n int64) bool { return n == self || n == target })
	return impl.IntsResult{List: alive[:min(int(most), len(alive))]}
}

func TestHelpersFor(t *testing.T) {
	alive := []int64{0, 0, 0, 0}
	for _, row := range []struct {
		statuses           []int64
		self, target, most int64
		want               []int64
	}{
		// most is 0, fewer than there are, as many, more.
		{alive, 0, 1, 0, nil}, {alive, 0, 1, 1, []int64{2}}, {alive, 0, 1, 2, []int64{2, 3}}, {alive, 0, 1, 3, []int64{2, 3}}, {alive, 0, 1, 4, []int64{2, 3}},
		{alive, 3, 2, 1, []int64{0}}, {alive, 3, 2, 4, []int64{0, 1}}, {alive, 1, 2, 1, []int64{0}}, {alive, 1, 2, 2, []int64{0, 3}}, {alive, 2, 0, 2, []int64{1, 3}},
		// self and target are the same.
		{alive, 1, 1, 4, []int64{0, 2, 3}}, {alive, 1, 1, 3, []int64{0, 2, 3}}, {alive, 1, 1, 2, []int64{0, 2}}, {alive, 0, 0, 1, []int64{1}}, {alive, 3, 3, 0, nil},
		// One of both, or both, are not in the view.
		{alive[:2], 0, 3, 4, []int64{1}}, {alive[:2], 3, 0, 4, []int64{1}}, {alive[:2], 2, 3, 4, []int64{0, 1}}, {alive[:2], 3, 3, 1, []int64{0}}, {alive[:2], 2, 2, 2, []int64{0, 1}},
		// Only those that are alive.
		{[]int64{0, 1, 0, 2}, 0, 2, 4, nil}, {[]int64{0, 1, 0, 2}, 1, 3, 4, []int64{0, 2}}, {[]int64{0, 1, 0, 2}, 1, 3, 1, []int64{0}}, {[]int64{1, 0, 2, 0}, 0, 2, 1, []int64{1}},
		{[]int64{1, 0, 2, 0}, 0, 2, 2, []int64{1, 3}}, {[]int64{1, 2, 0, 0}, 2, 0, 1, []int64{3}}, {[]int64{1, 1, 1, 1}, 0, 1, 4, nil}, {[]int64{2, 2, 2, 2}, 0, 1, 4, nil},
		{[]int64{2, 1, 2, 0}, 0, 1, 4, []int64{3}}, {[]int64{2, 1, 2, 0}, 3, 1, 4, nil}, {[]int64{0, 2, 2, 1}, 1, 2, 1, []int64{0}},
		// There is nobody.
		{nil, 0, 1, 4, nil}, {alive[:1], 0, 1, 4, nil}, {alive[:1], 1, 0, 4, nil}, {alive[:2], 0, 1, 4, nil}, {alive[:1], 1, 2, 4, []int64{0}},
	} {
		var view []impl.Claim
		for i, status := range row.statuses {
			// Neither the Inc nor the Meta tells the Status.
			view = append(view, aClaim(int64(i), 2-status, status, int64(i)%3))
		}
		name := fmt.Sprintf("HelpersFor of %v, %d, %d, %d", view, row.self, row.target, row.most)
		checkInts(t, name, impl.HelpersFor(view, row.self, row.target, row.most), impl.IntsResult{List: row.want})
		checkInts(t, "by the document's words", wantHelpers(view, row.self, row.target, row.most), impl.IntsResult{List: row.want})
	}
	checkInts(t, "HelpersFor of an empty list", impl.HelpersFor([]impl.Claim{}, 0, 1, 4), impl.IntsResult{})
	// The Nodes are told, not their places.
	checkInts(t, "HelpersFor of few", impl.HelpersFor([]impl.Claim{aClaim(1, 5, 0, 0), aClaim(3, 5, 0, 0)}, 0, 2, 4), impl.IntsResult{List: []int64{1, 3}})
}

func TestHelpersForOfManyViews(t *testing.T) {
	for _, view := range append(rightViews(), wrongViews()...) {
		for self := int64(-1); self <= 4; self++ {
			for target := int64(-1); target <= 4; target++ {
				for most := int64(-1); most <= 5; most++ {
					name := fmt.Sprintf("HelpersFor of %v, %d, %d, %d", view, self, target, most)
					checkInts(t, name, impl.HelpersFor(view, self, target, most), wantHelpers(view, self, target, most))
				}
			}
		}
	}
}

func TestHelpersForOfEachNumber(t *testing.T) {
	for _, view := range [][]impl.Claim{nil, aView(0, 3), {{}, {Node: 1}, {Node: 2}, {Node: 3}}} {
		check := func(self int64, target int64, most int64, right bool) {
			t.Helper()
			got := impl.HelpersFor(view, self, target, most)
			if got.Code != rangeOr(right) || !right && len(got.List) != 0 {
				t.Errorf("HelpersFor of %v, %d, %d, %d: %v", view, self, target, most, got)
			}
			// A fault of the view is told ahead of it.
			checkInts(t, "HelpersFor of a wrong view", impl.HelpersFor(aView(1, 1), self, target, most), impl.IntsResult{Code: impl.ErrForm})
			checkInts(t, "HelpersFor of a wrong view", impl.HelpersFor(make([]impl.Claim, 5), self, target, most), impl.IntsResult{Code: impl.ErrMany})
		}
		for _, n := range boundsOf(0, 3) {
			check(n, 1, 2, 0 <= n && n <= 3)
			check(1, n, 2, 0 <= n && n <= 3)
			check(n, n, 4, 0 <= n && n <= 3)
		}
		for _, n := range boundsOf(0, 4) {
			check(0, 1, n, 0 <= n && n <= 4)
		}
		// The bounds of the nodes are not those of most.
		check(4, 1, 2, false)
		check(1, 4, 2, false)
		check(3, 3, 4, true)
		check(4, 4, 5, false)
	}
}
