package tests

import (
	"fmt"
	"math"
	"slices"
	"testing"

	"loop.example/g00725/impl"
)

func toldView(changed bool, view ...impl.Claim) impl.ViewResult {
	return impl.ViewResult{View: view, Changed: changed}
}

// wantMerge is MergeClaim by the document's words: a room for each node, of which one is taken or turned, and all that
// are taken then, in order.
func wantMerge(view []impl.Claim, c impl.Claim) impl.ViewResult {
	if code := wantViewFault(view); code != impl.OK {
		return viewCode(code)
	}
	if code := wantClaimFault(c); code != impl.OK {
		return viewCode(code)
	}
	var rooms [4][]impl.Claim
	for _, old := range view {
		rooms[old.Node] = []impl.Claim{old}
	}
	var out impl.ViewResult
	if room := rooms[c.Node]; len(room) == 0 || wantBeats(c, room[0]) {
		rooms[c.Node], out.Changed = []impl.Claim{c}, true
	}
	for _, room := range rooms {
		out.View = append(out.View, room...)
	}
	return out
}

// wantMerges is MergeViews by the document's words: claim by claim.
func wantMerges(a []impl.Claim, b []impl.Claim) impl.ViewResult {
	for _, view := range [][]impl.Claim{a, b} {
		if code := wantViewFault(view); code != impl.OK {
			return viewCode(code)
		}
	}
	out := toldView(false, a...)
	for _, c := range b {
		step := wantMerge(out.View, c)
		out = toldView(out.Changed || step.Changed, step.View...)
	}
	return out
}

// wantAbove is IsAbove by the document's words: each of b against each of a.
func wantAbove(a []impl.Claim, b []impl.Claim) bool {
	if wantViewFault(a) != impl.OK || wantViewFault(b) != impl.OK {
		return false
	}
	for _, c := range b {
		if !slices.ContainsFunc(a, func(o impl.Claim) bool { return o.Node == c.Node && (o == c || wantBeats(o, c)) }) {
			return false
		}
	}
	return true
}

func TestMergeClaimOfANodeThatIsNotThere(t *testing.T) {
	a, b, c, d := aClaim(0, 5, 0, 1), aClaim(1, 0, 2, 2), aClaim(2, 1000000, 1, 0), aClaim(3, 1, 0, 9999999)
	for _, row := range []struct {
		view []impl.Claim
		c    impl.Claim
		want []impl.Claim
	}{
		{nil, a, []impl.Claim{a}}, {[]impl.Claim{}, d, []impl.Claim{d}}, {nil, impl.Claim{}, []impl.Claim{{}}},
		{[]impl.Claim{b}, a, []impl.Claim{a, b}}, {[]impl.Claim{b, c, d}, a, []impl.Claim{a, b, c, d}}, {[]impl.Claim{d}, a, []impl.Claim{a, d}},
		{[]impl.Claim{a, c}, b, []impl.Claim{a, b, c}}, {[]impl.Claim{a, d}, c, []impl.Claim{a, c, d}}, {[]impl.Claim{a, b, d}, c, []impl.Claim{a, b, c, d}},
		{[]impl.Claim{a, c, d}, b, []impl.Claim{a, b, c, d}}, {[]impl.Claim{a, d}, b, []impl.Claim{a, b, d}}, {[]impl.Claim{b, d}, c, []impl.Claim{b, c, d}},
		{[]impl.Claim{a}, d, []impl.Claim{a, d}}, {[]impl.Claim{a, b, c}, d, []impl.Claim{a, b, c, d}}, {[]impl.Claim{c}, d, []impl.Claim{c, d}},
	} {
		checkView(t, fmt.Sprintf("MergeClaim of %v and %v", row.view, row.c), impl.MergeClaim(row.view, row.c), toldView(true, row.want...))
	}
}

func TestMergeClaimOfANodeThatIsThere(t *testing.T) {
	for _, count := range []int{1, 2, 3, 4} {
		for at := range int64(count) {
			view := claimsBy(1<<count-1, 3)
			view[at] = aClaim(at, 5, 1, 70)
			for _, row := range []struct {
				c       impl.Claim
				changed bool
			}{
				{aClaim(at, 6, 1, 70), true}, {aClaim(at, 6, 0, 70), true}, {aClaim(at, 6, 2, 71), true}, {aClaim(at, 1000000, 0, 0), true},
				{aClaim(at, 5, 2, 70), true}, {aClaim(at, 5, 2, 71), true}, {aClaim(at, 5, 2, 0), true},
				{aClaim(at, 5, 1, 70), false}, {aClaim(at, 5, 0, 70), false}, {aClaim(at, 5, 0, 71), false},
				{aClaim(at, 4, 1, 70), false}, {aClaim(at, 4, 2, 70), false}, {aClaim(at, 4, 2, 99), false}, {aClaim(at, 0, 2, 70), false},
				// Of one time and Status, with another Meta: none beats the other, nothing is turned.
				{aClaim(at, 5, 1, 71), false}, {aClaim(at, 5, 1, 69), false}, {aClaim(at, 5, 1, 0), false}, {aClaim(at, 5, 1, 9999999), false},
			} {
				want := slices.Clone(view)
				if row.changed {
					want[at] = row.c
				}
				checkView(t, fmt.Sprintf("MergeClaim of %v and %v", view, row.c), impl.MergeClaim(view, row.c), toldView(row.changed, want...))
			}
		}
	}
}

func TestMergeClaimOfWrongOnes(t *testing.T) {
	for _, wrong := range wrongClaims() {
		for _, view := range rightViews() {
			checkView(t, fmt.Sprintf("MergeClaim of %v and %v", view, wrong), impl.MergeClaim(view, wrong), viewCode(impl.ErrRange))
		}
		// The fault of the view ahead of that of the claim.
		checkView(t, "MergeClaim of two that are wrong", impl.MergeClaim(aView(1, 1), wrong), viewCode(impl.ErrForm))
		checkView(t, "MergeClaim of two that are wrong", impl.MergeClaim(aView(2, 0), wrong), viewCode(impl.ErrForm))
		checkView(t, "MergeClaim of two that are wrong", impl.MergeClaim(make([]impl.Claim, 5), wrong), viewCode(impl.ErrMany))
		checkView(t, "MergeClaim of two that are wrong", impl.MergeClaim([]impl.Claim{wrong}, wrong), viewCode(impl.ErrRange))
	}
	for _, view := range wrongViews() {
		for node := range int64(4) {
			checkView(t, "MergeClaim of a wrong view", impl.MergeClaim(view, aClaim(node, 1000000, 2, 5)), viewCode(wantViewFault(view)))
		}
	}
	for _, node := range boundsOf(0, 3) {
		c := impl.Claim{Node: node, Inc: 7}
		checkView(t, fmt.Sprint("MergeClaim of the Node ", node), impl.MergeClaim(nil, c), wantMerge(nil, c))
	}
}

func TestMergeClaimOfManyClaims(t *testing.T) {
	for _, view := range append(rightViews(), wrongViews()...) {
		for node := int64(-1); node <= 4; node++ {
			for seed := range int64(36) {
				c := aClaim(node, []int64{0, 1, 5, 6, 999999, 1000000}[seed%6], seed/6%3, []int64{0, 65536}[seed/18])
				got := impl.MergeClaim(view, c)
				checkView(t, fmt.Sprintf("MergeClaim of %v and %v", view, c), got, wantMerge(view, c))
				if got.Code != impl.OK {
					continue
				}
				checkViewFault(t, got.View, impl.OK)
				if again := impl.MergeClaim(got.View, c); again.Changed || !impl.SameViews(again.View, got.View) {
					t.Errorf("MergeClaim of %v and %v once more: %v", view, c, again)
				}
			}
		}
	}
}

func TestMergeViews(t *testing.T) {
	a, b, c, d := aClaim(0, 5, 1, 1), aClaim(1, 5, 1, 2), aClaim(2, 5, 1, 3), aClaim(3, 5, 1, 4)
	above := func(c impl.Claim) impl.Claim { return aClaim(c.Node, 6, 0, 77) }
	below := func(c impl.Claim) impl.Claim { return aClaim(c.Node, 5, 0, 77) }
	other := func(c impl.Claim) impl.Claim { return aClaim(c.Node, 5, 1, 77) }
	for _, row := range []struct {
		a, b []impl.Claim
		want impl.ViewResult
	}{
		{nil, nil, toldView(false)}, {nil, []impl.Claim{a, c}, toldView(true, a, c)}, {[]impl.Claim{a, c}, nil, toldView(false, a, c)},
		{[]impl.Claim{}, []impl.Claim{{}}, toldView(true, impl.Claim{})}, {[]impl.Claim{{}}, []impl.Claim{}, toldView(false, impl.Claim{})},
		// Other nodes, some of both, and the same.
		{[]impl.Claim{a, b}, []impl.Claim{c, d}, toldView(true, a, b, c, d)}, {[]impl.Claim{c, d}, []impl.Claim{a, b}, toldView(true, a, b, c, d)},
		{[]impl.Claim{a, c}, []impl.Claim{b, d}, toldView(true, a, b, c, d)}, {[]impl.Claim{b, d}, []impl.Claim{a, c}, toldView(true, a, b, c, d)},
		{[]impl.Claim{a, b, c}, []impl.Claim{b, c, d}, toldView(true, a, b, c, d)}, {[]impl.Claim{b, c}, []impl.Claim{below(b), d}, toldView(true, b, c, d)},
		{[]impl.Claim{b, c}, []impl.Claim{a, above(c)}, toldView(true, a, b, above(c))}, {[]impl.Claim{a, b, c, d}, []impl.Claim{a, b, c, d}, toldView(false, a, b, c, d)},
		// None of b changes it, only the first one, the last one, one between them, all.
		{[]impl.Claim{a, b, c}, []impl.Claim{below(a), below(b), below(c)}, toldView(false, a, b, c)}, {[]impl.Claim{a, b}, []impl.Claim{other(a), other(b)}, toldView(false, a, b)},
		{[]impl.Claim{a, b, c}, []impl.Claim{above(a), below(b), below(c)}, toldView(true, above(a), b, c)}, {[]impl.Claim{a, b, c}, []impl.Claim{below(a), b, above(c)}, toldView(true, a, b, above(c))},
		{[]impl.Claim{a, b, c}, []impl.Claim{other(a), above(b), other(c)}, toldView(true, a, above(b), c)}, {[]impl.Claim{below(a), below(b)}, []impl.Claim{a, b}, toldView(true, a, b)},
		{[]impl.Claim{b, c, d}, []impl.Claim{a, b, c, d}, toldView(true, a, b, c, d)}, {[]impl.Claim{a, b, c}, []impl.Claim{a, b, c, d}, toldView(true, a, b, c, d)},
		{[]impl.Claim{a, b, c, d}, []impl.Claim{below(c)}, toldView(false, a, b, c, d)}, {[]impl.Claim{a, b, c, d}, []impl.Claim{above(d)}, toldView(true, a, b, c, above(d))},
	} {
		checkView(t, fmt.Sprintf("MergeViews of %v and %v", row.a, row.b), impl.MergeViews(row.a, row.b), row.want)
		checkView(t, "by the document's words", wantMerges(row.a, row.b), row.want)
	}
}

func TestMergeViewsOfWrongOnes(t *testing.T) {
	right, wrong := aView(0, 2), wrongViews()
	for i, view := range wrong {
		code := viewCode(wantViewFault(view))
		checkView(t, fmt.Sprintf("MergeViews of %v", view), impl.MergeViews(view, right), code)
		checkView(t, fmt.Sprintf("MergeViews of %v", view), impl.MergeViews(view, nil), code)
		checkView(t, fmt.Sprintf("MergeViews into a view of %v", view), impl.MergeViews(right, view), code)
		checkView(t, fmt.Sprintf("MergeViews into nothing of %v", view), impl.MergeViews(nil, view), code)
		// The fault of a ahead of that of b.
		checkView(t, "MergeViews of two that are wrong", impl.MergeViews(view, wrong[i*7%len(wrong)]), code)
		checkView(t, "MergeViews of two that are wrong", impl.MergeViews(view, make([]impl.Claim, 5)), code)
		checkView(t, "MergeViews of two that are wrong", impl.MergeViews(view, aView(1, 1)), code)
	}
}

// TestMergedViewsRise holds the promise of what is merged: nothing in it beats what is there then, it is above both,
// and merged once more nothing changes.
func TestMergedViewsRise(t *testing.T) {
	views := rightViews()
	for _, a := range views {
		for _, b := range views {
			got := impl.MergeViews(a, b)
			checkView(t, fmt.Sprintf("MergeViews of %v and %v", a, b), got, wantMerges(a, b))
			checkViewFault(t, got.View, impl.OK)
			if got.Changed == impl.SameViews(got.View, a) {
				t.Fatalf("MergeViews of %v and %v: Changed is %v, and it is %v", a, b, got.Changed, got.View)
			}
			for _, c := range slices.Concat(a, b) {
				there := impl.FindClaim(got.View, c.Node)
				if there.Code != impl.OK || impl.Beats(c, there.View[0]) {
					t.Fatalf("MergeViews of %v and %v: %v is not there, or beats what is there", a, b, c)
				}
			}
			for _, from := range [][]impl.Claim{a, b, got.View, got.View[:len(got.View)/2]} {
				if again := impl.MergeViews(got.View, from); again.Changed || !impl.SameViews(again.View, got.View) {
					t.Fatalf("MergeViews of %v and %v, and of %v once more: %v", a, b, from, again)
				}
			}
			// It stands above what it came from.
			if !impl.IsAbove(got.View, a) {
				t.Fatalf("MergeViews of %v and %v is not above the first one", a, b)
			}
		}
	}
}

func TestMergeViewsIsMergeClaimOneByOne(t *testing.T) {
	views := rightViews()
	for i, a := range views {
		for _, b := range views[i%3:] {
			view, changed := a, false
			for _, c := range b {
				step := impl.MergeClaim(view, c)
				view, changed = step.View, changed || step.Changed
			}
			checkView(t, fmt.Sprintf("MergeViews of %v and %v", a, b), impl.MergeViews(a, b), toldView(changed, view...))
		}
	}
}

func TestMergeViewsOfClaimsOfOneTime(t *testing.T) {
	// Who came first stays, whatever its Meta is; so both ways round other ones stay.
	a, b := []impl.Claim{aClaim(1, 5, 1, 3), aClaim(2, 5, 0, 8)}, []impl.Claim{aClaim(1, 5, 1, 4), aClaim(2, 5, 0, 7)}
	checkView(t, "MergeViews", impl.MergeViews(a, b), toldView(false, a...))
	checkView(t, "MergeViews the other way round", impl.MergeViews(b, a), toldView(false, b...))
	if impl.IsAbove(a, b) || impl.IsAbove(b, a) || !impl.IsAbove(a, a) || impl.Beats(a[0], b[0]) || impl.Beats(b[0], a[0]) {
		t.Error("of claims of one time that tell another Meta one is above the other")
	}
}

func TestIsAbove(t *testing.T) {
	c := aClaim(1, 5, 1, 70)
	for _, row := range []struct {
		claim impl.Claim
		want  bool
	}{
		{c, true}, {aClaim(1, 6, 0, 70), true}, {aClaim(1, 6, 1, 3), true}, {aClaim(1, 5, 2, 70), true}, {aClaim(1, 5, 2, 3), true}, {aClaim(1, 1000000, 0, 0), true},
		{aClaim(1, 5, 1, 71), false}, {aClaim(1, 5, 1, 69), false}, {aClaim(1, 5, 1, 0), false}, {aClaim(1, 5, 0, 70), false}, {aClaim(1, 5, 0, 71), false},
		{aClaim(1, 4, 2, 70), false}, {aClaim(1, 4, 1, 70), false}, {aClaim(0, 6, 2, 70), false}, {aClaim(2, 6, 2, 70), false}, {aClaim(0, 5, 1, 70), false},
	} {
		first, last := aClaim(0, 3, 0, 4), aClaim(3, 4, 1, 5)
		for _, around := range [][2][]impl.Claim{{nil, nil}, {{first}, nil}, {nil, {last}}, {{first}, {last}}} {
			if len(around[0]) > 0 && row.claim.Node == 0 {
				continue
			}
			a, b := slices.Concat(around[0], []impl.Claim{row.claim}, around[1]), slices.Concat(around[0], []impl.Claim{c}, around[1])
			if got := impl.IsAbove(a, b); got != row.want {
				t.Errorf("IsAbove of %v and %v = %v", a, b, got)
			}
			// What else is in a does not count, what else is in b does.
			if got := impl.IsAbove(a, []impl.Claim{c}); got != row.want {
				t.Errorf("IsAbove of %v and %v = %v", a, c, got)
			}
			if len(b) > 1 && impl.IsAbove([]impl.Claim{row.claim}, b) {
				t.Errorf("IsAbove of %v and %v: there is no claim of some", row.claim, b)
			}
		}
	}
}

func TestIsAboveOfNothing(t *testing.T) {
	for _, a := range rightViews() {
		if !impl.IsAbove(a, nil) || !impl.IsAbove(a, []impl.Claim{}) || !impl.IsAbove(a, a) || !impl.IsAbove(a, slices.Clone(a)) {
			t.Errorf("%v is not above nothing, or itself", a)
		}
		if got := impl.IsAbove(nil, a); got != (len(a) == 0) {
			t.Errorf("IsAbove of nothing and %v = %v", a, got)
		}
	}
}

func TestIsAboveOfWrongOnes(t *testing.T) {
	for _, wrong := range wrongViews() {
		for _, right := range [][]impl.Claim{nil, aView(0), aView(0, 1, 2, 3), {aClaim(0, 1000000, 2, 0), aClaim(1, 1000000, 2, 0), aClaim(2, 1000000, 2, 0), aClaim(3, 1000000, 2, 0)}} {
			if impl.IsAbove(wrong, right) || impl.IsAbove(right, wrong) {
				t.Errorf("IsAbove of %v and %v, one way or the other, is true", right, wrong)
			}
		}
		if impl.IsAbove(wrong, wrong) {
			t.Errorf("IsAbove of %v and itself is true", wrong)
		}
	}
	if impl.IsAbove([]impl.Claim{{Inc: math.MaxInt64}}, []impl.Claim{{}}) || impl.IsAbove([]impl.Claim{{}}, []impl.Claim{{Inc: math.MinInt64}}) {
		t.Error("a number out of bounds is above another one")
	}
}

func TestIsAboveOfManyViews(t *testing.T) {
	views := append(rightViews(), wrongViews()...)
	for i, a := range views {
		for _, b := range views {
			if got, want := impl.IsAbove(a, b), wantAbove(a, b); got != want {
				t.Fatalf("IsAbove of %v and %v = %v", a, b, got)
			}
		}
		if wantViewFault(a) != impl.OK {
			continue
		}
		// It goes on from view to view.
		for _, b := range views[i%5:] {
			for _, c := range views[i%7 : 60] {
				if impl.IsAbove(a, b) && impl.IsAbove(b, c) && !impl.IsAbove(a, c) {
					t.Fatalf("%v is above %v, and that above %v, but it is not", a, b, c)
				}
			}
		}
	}
}
