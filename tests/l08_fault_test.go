package tests

import (
	"fmt"
	"math"
	"slices"
	"testing"

	"loop.example/g00725/impl"
)

func aClaim(node int64, inc int64, status int64, meta int64) impl.Claim {
	return impl.Claim{Node: node, Inc: inc, Status: status, Meta: meta}
}

// aView has a claim of each of the nodes, in this order; no two of these are the same but for the Node.
func aView(nodes ...int64) []impl.Claim {
	var out []impl.Claim
	for i, node := range nodes {
		out = append(out, aClaim(node, 10+int64(i), int64(i)%3, 65536+int64(i)))
	}
	return out
}

// claimsBy are claims that rise, of those nodes whose bit is in set; the other numbers mix up with seed.
func claimsBy(set int, seed int64) []impl.Claim {
	incs, metas := []int64{0, 1, 5, 999999, 1000000}, []int64{0, 1, 65536, 9999999}
	var out []impl.Claim
	for node := range int64(4) {
		if set>>node&1 == 1 {
			mix := seed*7 + node*seed + node
			out = append(out, aClaim(node, incs[mix%5], mix%3, metas[mix/3%4]))
		}
	}
	return out
}

// rightViews are views of all sets of nodes.
func rightViews() [][]impl.Claim {
	var out [][]impl.Claim
	for set := range 16 {
		for seed := range int64(6) {
			out = append(out, claimsBy(set, seed))
		}
	}
	return out
}

// wrongClaims have a fault each, or more than one.
func wrongClaims() []impl.Claim {
	return []impl.Claim{
		{Node: 4}, {Node: -1}, {Inc: 1000001}, {Inc: -1}, {Status: 3}, {Status: -1}, {Meta: 10000000}, {Meta: -1}, {Node: 1 << 32}, {Status: 1 << 32},
		{Node: math.MinInt64}, {Node: math.MaxInt64}, {Inc: math.MinInt64}, {Inc: math.MaxInt64}, {Status: math.MinInt64}, {Status: math.MaxInt64},
		{Meta: math.MinInt64}, {Meta: math.MaxInt64}, {Node: 2, Inc: -1, Status: 3, Meta: -1}, {Node: 4, Inc: 1000001, Status: 3, Meta: 10000000},
	}
}

// wrongViews have each fault, and more than one.
func wrongViews() [][]impl.Claim {
	out := [][]impl.Claim{
		aView(0, 1, 2, 3, 3), aView(0, 1, 2, 3, 4), aView(3, 2, 1, 0, 0), make([]impl.Claim, 5), make([]impl.Claim, 5000),
		aView(0, 0), aView(3, 3), aView(1, 0), aView(3, 0), aView(0, 1, 1), aView(0, 2, 1), aView(2, 0, 1), aView(0, 1, 2, 2), aView(0, 1, 3, 2),
		aView(1, 0, 2, 3), aView(0, 0, 0, 0), {{Node: 1}, {Node: 1}}, make([]impl.Claim, 2), make([]impl.Claim, 4),
	}
	for _, wrong := range wrongClaims() {
		out = append(out, []impl.Claim{wrong}, []impl.Claim{wrong, {Node: 3}}, []impl.Claim{{Node: 0}, wrong, {Node: 3}}, []impl.Claim{{Node: 0}, wrong},
			append(aView(1, 1), wrong), append(aView(3, 2), wrong), append(aView(0, 1, 2, 3), wrong), []impl.Claim{{Node: 2}, wrong, {Node: 1}})
	}
	return out
}

// wantViewFault asks code by code, as the document names them.
func wantViewFault(view []impl.Claim) int64 {
	if len(view) > 4 {
		return impl.ErrMany
	}
	for _, c := range view {
		if code := wantClaimFault(c); code != impl.OK {
			return code
		}
	}
	for i := range view {
		if i > 0 && view[i-1].Node >= view[i].Node {
			return impl.ErrForm
		}
	}
	return impl.OK
}

func checkViewFault(t *testing.T, view []impl.Claim, code int64) {
	t.Helper()
	if got := impl.ViewFault(view); got != code {
		t.Errorf("ViewFault of %v = %d, want %d", view, got, code)
	}
	if want := wantViewFault(view); want != code {
		t.Errorf("by the document's words it is %d of %v, not %d", want, view, code)
	}
}

func TestViewsWithoutFault(t *testing.T) {
	checkViewFault(t, nil, impl.OK)
	checkViewFault(t, []impl.Claim{}, impl.OK)
	checkViewFault(t, aView(0, 1)[:0], impl.OK)
	for _, view := range rightViews() {
		checkViewFault(t, view, impl.OK)
	}
	checkViewFault(t, []impl.Claim{aClaim(0, 0, 0, 0), aClaim(1, 1000000, 2, 9999999), aClaim(2, 0, 1, 0), aClaim(3, 1000000, 0, 9999999)}, impl.OK)
	// Only the Nodes have to rise.
	checkViewFault(t, []impl.Claim{aClaim(0, 9, 2, 9), aClaim(1, 8, 1, 8), aClaim(2, 7, 0, 7)}, impl.OK)
	checkViewFault(t, []impl.Claim{aClaim(0, 9, 2, 9), aClaim(3, 9, 2, 9)}, impl.OK)
}

func TestViewFaultHowManyClaims(t *testing.T) {
	checkViewFault(t, aView(0, 1, 2, 3), impl.OK)
	for _, count := range []int{5, 6, 7, 8, 12, 255, 256, 257, 5000} {
		nodes := make([]int64, count)
		checkViewFault(t, aView(nodes...), impl.ErrMany)
		for i := range nodes {
			nodes[i] = int64(i)
		}
		checkViewFault(t, aView(nodes...), impl.ErrMany)
		slices.Reverse(nodes)
		checkViewFault(t, aView(nodes...), impl.ErrMany)
	}
}

func TestViewFaultOfOneClaim(t *testing.T) {
	for _, wrong := range wrongClaims() {
		for _, view := range rightViews() {
			if len(view) == 4 {
				continue
			}
			// As the first one, between others, and as the last one.
			for at := range len(view) + 1 {
				checkViewFault(t, slices.Insert(slices.Clone(view), at, wrong), impl.ErrRange)
			}
		}
		for at := range 4 {
			view := aView(0, 1, 2, 3)
			wrong.Node = int64(at)
			view[at] = wrong
			checkViewFault(t, view, wantClaimFault(wrong))
		}
	}
	for _, node := range boundsOf(0, 3) {
		checkViewFault(t, []impl.Claim{{Node: node}}, rangeOr(0 <= node && node <= 3))
	}
}

func TestViewFaultOfNodesThatDoNotRise(t *testing.T) {
	for _, nodes := range [][]int64{
		{0, 0}, {3, 3}, {1, 0}, {3, 2}, {3, 0}, {0, 1, 1}, {0, 0, 1}, {0, 2, 1}, {1, 0, 2}, {2, 3, 0}, {0, 1, 2, 2}, {0, 1, 3, 2}, {0, 2, 1, 3},
		{1, 0, 2, 3}, {3, 2, 1, 0}, {0, 0, 0, 0}, {1, 2, 3, 0}, {0, 1, 0, 1},
	} {
		checkViewFault(t, aView(nodes...), impl.ErrForm)
	}
	// Of one Node there is one claim, whatever that tells.
	checkViewFault(t, []impl.Claim{aClaim(1, 5, 0, 3), aClaim(1, 5, 0, 3)}, impl.ErrForm)
	checkViewFault(t, []impl.Claim{aClaim(1, 5, 0, 3), aClaim(1, 6, 0, 3)}, impl.ErrForm)
	checkViewFault(t, []impl.Claim{aClaim(1, 6, 0, 3), aClaim(1, 5, 1, 4)}, impl.ErrForm)
	// All lists of up to four nodes.
	for n := range 256 {
		nodes := []int64{int64(n & 3), int64(n >> 2 & 3), int64(n >> 4 & 3), int64(n >> 6)}
		for count := range 5 {
			view := aView(nodes[:count]...)
			checkViewFault(t, view, wantViewFault(view))
		}
	}
}

func TestViewFaultInItsOrder(t *testing.T) {
	wrong := aClaim(2, 3, 3, 4)
	for _, row := range []struct {
		view []impl.Claim
		code int64
	}{
		// ErrMany and ErrRange, ErrMany and ErrForm, all three.
		{append(aView(0, 1, 2, 3), wrong), impl.ErrMany}, {append([]impl.Claim{wrong}, aView(0, 1, 2, 3)...), impl.ErrMany}, {aView(0, 1, 2, 3, 4), impl.ErrMany},
		{aView(3, 2, 1, 0, 0), impl.ErrMany}, {append(aView(1, 1, 0, 0), wrong), impl.ErrMany}, {[]impl.Claim{wrong, wrong, wrong, wrong, wrong}, impl.ErrMany},
		// ErrRange and ErrForm: behind two that do not rise, ahead of them, and by the fault itself.
		{append(aView(0, 0), wrong), impl.ErrRange}, {append(aView(1, 0), wrong), impl.ErrRange}, {append(aView(3, 3, 0), wrong), impl.ErrRange},
		{append([]impl.Claim{wrong}, aView(1, 0)...), impl.ErrRange}, {[]impl.Claim{wrong, wrong}, impl.ErrRange}, {aView(3, -1), impl.ErrRange}, {aView(4, 3), impl.ErrRange},
		{aView(math.MaxInt64, math.MinInt64), impl.ErrRange}, {aView(1, 1, 4), impl.ErrRange}, {aView(2, 1, 0, -1), impl.ErrRange},
	} {
		checkViewFault(t, row.view, row.code)
	}
	for _, view := range wrongViews() {
		if wantViewFault(view) == impl.OK {
			t.Fatalf("%v has no fault", view)
		}
		checkViewFault(t, view, wantViewFault(view))
	}
}

// wantBeats holds the two as pairs of numbers, of which the first one counts ahead.
func wantBeats(a impl.Claim, b impl.Claim) bool {
	return slices.Compare([]int64{a.Inc, a.Status}, []int64{b.Inc, b.Status}) > 0
}

func TestBeats(t *testing.T) {
	for _, row := range []struct {
		incA, statusA, incB, statusB int64
		want                         bool
	}{
		{2, 0, 1, 2, true}, {2, 0, 1, 1, true}, {2, 0, 1, 0, true}, {2, 2, 1, 0, true}, {1, 2, 2, 0, false}, {1, 0, 2, 2, false}, {1, 1, 2, 1, false},
		{5, 0, 5, 0, false}, {5, 0, 5, 1, false}, {5, 0, 5, 2, false}, {5, 1, 5, 0, true}, {5, 1, 5, 1, false}, {5, 1, 5, 2, false},
		{5, 2, 5, 0, true}, {5, 2, 5, 1, true}, {5, 2, 5, 2, false}, {0, 0, 0, 0, false}, {1000000, 0, 999999, 2, true}, {999999, 2, 1000000, 0, false},
		// Of any claims: wrong ones, too.
		{0, 0, -1, 3, true}, {-1, 3, 0, 0, false}, {7, 0, 7, -1, true}, {7, -1, 7, 0, false}, {7, 4, 7, 3, true}, {1000002, 0, 1000001, 9, true},
		{math.MaxInt64, 0, math.MinInt64, 0, true}, {math.MinInt64, 0, math.MaxInt64, 0, false}, {math.MinInt64, 1, math.MinInt64, 0, true},
		{math.MaxInt64, 0, math.MaxInt64, 1, false}, {0, math.MaxInt64, 0, math.MinInt64, true}, {0, math.MinInt64, 0, math.MaxInt64, false},
		{math.MaxInt64, math.MinInt64, math.MaxInt64 - 1, math.MaxInt64, true}, {math.MinInt64, math.MaxInt64, math.MinInt64 + 1, math.MinInt64, false},
		{1 << 32, 0, 0, 0, true}, {0, 1 << 32, 0, 0, true}, {1, 0, 1 << 32, 0, false},
	} {
		// Of whatever Node, and with whatever Meta.
		for _, n := range []int64{0, 1, 3, 4, -1, 9999999, math.MinInt64, math.MaxInt64} {
			for _, other := range []int64{0, 1, 3, -1, math.MinInt64, math.MaxInt64} {
				for _, pair := range [][2]impl.Claim{
					{aClaim(n, row.incA, row.statusA, 0), aClaim(other, row.incB, row.statusB, 0)}, {aClaim(0, row.incA, row.statusA, n), aClaim(0, row.incB, row.statusB, other)},
					{aClaim(n, row.incA, row.statusA, other), aClaim(n, row.incB, row.statusB, other)},
				} {
					if got := impl.Beats(pair[0], pair[1]); got != row.want {
						t.Errorf("Beats of %v and %v = %v", pair[0], pair[1], got)
					}
				}
			}
		}
	}
}

func TestBeatsOfEachPair(t *testing.T) {
	incs, statuses := boundsOf(0, 1000000), append(boundsOf(0, 2), 1)
	for _, incA := range incs {
		for _, incB := range incs {
			for _, statusA := range statuses {
				for _, statusB := range statuses {
					a, b := impl.Claim{Inc: incA, Status: statusA}, impl.Claim{Inc: incB, Status: statusB}
					got, back := impl.Beats(a, b), impl.Beats(b, a)
					if got != wantBeats(a, b) || got && back || !got && !back && (incA != incB || statusA != statusB) {
						t.Fatalf("Beats of %v and %v = %v, and the other way round %v", a, b, got, back)
					}
				}
			}
		}
	}
}

func TestBeatsGoesOn(t *testing.T) {
	// What beats a claim beats all that this beats.
	var all []impl.Claim
	for n := range int64(27) {
		all = append(all, impl.Claim{Inc: n / 9, Status: n / 3 % 3, Meta: n % 3})
	}
	for _, a := range all {
		for _, b := range all {
			for _, c := range all {
				if impl.Beats(a, b) && impl.Beats(b, c) && !impl.Beats(a, c) {
					t.Errorf("%v beats %v, and that %v, but it does not", a, b, c)
				}
			}
		}
	}
}

// viewText tells all fields; an empty list and nil are told alike.
func viewText(got impl.ViewResult) string {
	return fmt.Sprint(got.Code, got.View, got.Changed)
}

func viewCode(code int64) impl.ViewResult {
	return impl.ViewResult{Code: code}
}

func checkView(t *testing.T, name string, got impl.ViewResult, want impl.ViewResult) {
	t.Helper()
	if viewText(got) != viewText(want) {
		t.Errorf("%s: %v, want %v", name, got, want)
	}
}

// wantClaim is FindClaim by the document's words.
func wantClaim(view []impl.Claim, node int64) impl.ViewResult {
	if code := wantViewFault(view); code != impl.OK {
		return viewCode(code)
	}
	for _, c := range view {
		if c.Node == node {
			return impl.ViewResult{View: []impl.Claim{c}}
		}
	}
	return viewCode(impl.ErrNone)
}

func TestFindClaim(t *testing.T) {
	view := []impl.Claim{aClaim(0, 7, 0, 5), aClaim(2, 3, 1, 6), aClaim(3, 9, 2, 7)}
	for i, want := range view {
		checkView(t, fmt.Sprint("FindClaim ", i), impl.FindClaim(view, want.Node), impl.ViewResult{View: []impl.Claim{want}})
	}
	for _, node := range []int64{1, -1, 4, -2, 5, 256, 258, 1 << 32, 1<<32 + 2, -1 << 32, math.MinInt64, math.MinInt64 + 2, math.MaxInt64} {
		checkView(t, fmt.Sprint("FindClaim ", node), impl.FindClaim(view, node), viewCode(impl.ErrNone))
		checkView(t, fmt.Sprint("FindClaim of no claims ", node), impl.FindClaim(nil, node), viewCode(impl.ErrNone))
	}
	for node := range int64(4) {
		checkView(t, "FindClaim of nil", impl.FindClaim(nil, node), viewCode(impl.ErrNone))
		checkView(t, "FindClaim of an empty list", impl.FindClaim([]impl.Claim{}, node), viewCode(impl.ErrNone))
	}
}

func TestFindClaimOfManyViews(t *testing.T) {
	for _, view := range append(rightViews(), wrongViews()...) {
		for _, node := range append(boundsOf(0, 3), 2) {
			checkView(t, fmt.Sprintf("FindClaim of %v and %d", view, node), impl.FindClaim(view, node), wantClaim(view, node))
		}
	}
	// The fault is told ahead of what is there, and of what is not.
	checkView(t, "FindClaim of a wrong view", impl.FindClaim(aView(1, 1), 1), viewCode(impl.ErrForm))
	checkView(t, "FindClaim of a wrong view", impl.FindClaim(aView(2, 1), 3), viewCode(impl.ErrForm))
	checkView(t, "FindClaim of a wrong view", impl.FindClaim(aView(1, 4), 4), viewCode(impl.ErrRange))
	checkView(t, "FindClaim of a wrong view", impl.FindClaim(aView(0, 1, 2, 3, 3), 0), viewCode(impl.ErrMany))
}

// wantNodes is NodesIn by the document's words.
func wantNodes(view []impl.Claim, status int64) impl.IntsResult {
	if code := wantViewFault(view); code != impl.OK {
		return impl.IntsResult{Code: code}
	}
	if status != 0 && status != 1 && status != 2 {
		return impl.IntsResult{Code: impl.ErrRange}
	}
	var out impl.IntsResult
	for _, c := range view {
		if c.Status == status {
			out.List = append(out.List, c.Node)
		}
	}
	return out
}

func TestNodesIn(t *testing.T) {
	for _, row := range []struct {
		statuses []int64
		want     [3][]int64
	}{
		{nil, [3][]int64{}}, {[]int64{0}, [3][]int64{{0}}}, {[]int64{1}, [3][]int64{nil, {0}}}, {[]int64{2}, [3][]int64{nil, nil, {0}}},
		{[]int64{0, 0, 0, 0}, [3][]int64{{0, 1, 2, 3}}}, {[]int64{1, 1, 1, 1}, [3][]int64{nil, {0, 1, 2, 3}}}, {[]int64{2, 2, 2, 2}, [3][]int64{nil, nil, {0, 1, 2, 3}}},
		{[]int64{2, 1, 0, 1}, [3][]int64{{2}, {1, 3}, {0}}}, {[]int64{0, 1, 2, 0}, [3][]int64{{0, 3}, {1}, {2}}}, {[]int64{1, 2, 2, 1}, [3][]int64{nil, {0, 3}, {1, 2}}},
	} {
		var view []impl.Claim
		for i, status := range row.statuses {
			// Neither the Inc nor the Meta tells the Status.
			view = append(view, aClaim(int64(i), 2-status, status, int64(i)%3))
		}
		for status, want := range row.want {
			checkInts(t, fmt.Sprintf("NodesIn of %v and %d", view, status), impl.NodesIn(view, int64(status)), impl.IntsResult{List: want})
		}
	}
	// The Nodes are told, not their places.
	checkInts(t, "NodesIn of few", impl.NodesIn([]impl.Claim{aClaim(1, 5, 2, 0), aClaim(3, 5, 2, 0)}, 2), impl.IntsResult{List: []int64{1, 3}})
	checkInts(t, "NodesIn of few", impl.NodesIn([]impl.Claim{aClaim(1, 5, 2, 0), aClaim(2, 5, 1, 0), aClaim(3, 5, 2, 0)}, 1), impl.IntsResult{List: []int64{2}})
}

func TestNodesInOfManyViews(t *testing.T) {
	for _, view := range append(rightViews(), wrongViews()...) {
		for _, status := range append(boundsOf(0, 2), 1) {
			checkInts(t, fmt.Sprintf("NodesIn of %v and %d", view, status), impl.NodesIn(view, status), wantNodes(view, status))
		}
	}
	// The fault of the view ahead of that of the status.
	checkInts(t, "NodesIn of a wrong view", impl.NodesIn(aView(1, 1), 3), impl.IntsResult{Code: impl.ErrForm})
	checkInts(t, "NodesIn of a wrong view", impl.NodesIn(make([]impl.Claim, 5), -1), impl.IntsResult{Code: impl.ErrMany})
	checkInts(t, "NodesIn of a wrong view", impl.NodesIn(aView(1, 1), 0), impl.IntsResult{Code: impl.ErrForm})
	for _, status := range []int64{3, -1, 1 << 32, math.MinInt64, math.MaxInt64} {
		checkInts(t, "NodesIn of a wrong status", impl.NodesIn(nil, status), impl.IntsResult{Code: impl.ErrRange})
		checkInts(t, "NodesIn of a wrong status", impl.NodesIn(aView(0, 1, 2), status), impl.IntsResult{Code: impl.ErrRange})
	}
}

// differentViews are any lists of claims, right and wrong ones, of which no two are the same.
func differentViews() [][]impl.Claim {
	a, b, c := aClaim(1, 2, 0, 3), aClaim(2, 2, 0, 3), aClaim(2, 1, 0, 3)
	out := [][]impl.Claim{
		nil, {{}}, {{}, {}}, {{}, {}, {}}, {a}, {b}, {c}, {a, a}, {a, b}, {b, a}, {a, c}, {c, a}, {b, c}, {a, b, c}, {a, c, b}, {c, b, a}, {a, b, {}}, {{}, a, b},
		{aClaim(1, 2, 3, 0)}, {aClaim(3, 2, 0, 1)}, {aClaim(0, 2, 1, 3)}, {aClaim(1, 0, 2, 3)}, {aClaim(2, 0, 1, 3)}, {aClaim(1, 2, 0, 4)}, {aClaim(1, 2, 1, 3)},
		aView(0, 1, 2, 3), aView(0, 1, 2), aView(0, 1, 3), aView(3, 2, 1, 0), aView(0, 1, 2, 3, 4), make([]impl.Claim, 1000), make([]impl.Claim, 1001),
	}
	for _, n := range []int64{1, 2, -1, 1 << 32, 1<<32 + 1, math.MinInt64, math.MaxInt64} {
		out = append(out, []impl.Claim{{Node: n}}, []impl.Claim{{Inc: n}}, []impl.Claim{{Status: n}}, []impl.Claim{{Meta: n}},
			[]impl.Claim{a, {Meta: n}}, []impl.Claim{{Node: n}, a})
	}
	return out
}

func TestSameViews(t *testing.T) {
	left, right := differentViews(), differentViews()
	for i, a := range left {
		for j, b := range right {
			if got := impl.SameViews(a, b); got != (i == j) {
				t.Errorf("SameViews of %v and %v = %v", a, b, got)
			}
		}
	}
}

func TestSameViewsOfNilAndEmpty(t *testing.T) {
	lists := [][]impl.Claim{nil, {}, make([]impl.Claim, 0, 9), aView(0, 1)[:0]}
	for _, a := range lists {
		for _, b := range lists {
			if !impl.SameViews(a, b) {
				t.Errorf("SameViews of %#v and %#v is false", a, b)
			}
		}
		if impl.SameViews(a, make([]impl.Claim, 1)) || impl.SameViews(make([]impl.Claim, 1), a) {
			t.Errorf("SameViews of %#v and a claim is true", a)
		}
		if impl.ViewFault(a) != impl.OK || impl.FindClaim(a, 0).Code != impl.ErrNone || impl.NodesIn(a, 0).Code != impl.OK || !impl.IsAbove(a, a) {
			t.Errorf("%#v is told from nil", a)
		}
	}
}
