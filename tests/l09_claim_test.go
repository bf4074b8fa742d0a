package tests

import (
	"fmt"
	"math"
	"testing"

	"loop.example/g00725/impl"
)

func claimCode(code int64) impl.ClaimResult {
	return impl.ClaimResult{Code: code}
}

func madeClaim(c impl.Claim) impl.ClaimResult {
	return impl.ClaimResult{Claim: c, Made: true}
}

func oldClaim(c impl.Claim) impl.ClaimResult {
	return impl.ClaimResult{Claim: c}
}

func checkClaim(t *testing.T, name string, got impl.ClaimResult, want impl.ClaimResult) {
	t.Helper()
	if got != want {
		t.Errorf("%s: %v, want %v", name, got, want)
	}
}

// wantRefuted is RefuteBy by the document's words.
func wantRefuted(own impl.Claim, c impl.Claim) impl.ClaimResult {
	if code := wantClaimFault(own); code != impl.OK {
		return claimCode(code)
	}
	if code := wantClaimFault(c); code != impl.OK {
		return claimCode(code)
	}
	switch {
	case own.Node != c.Node:
		return claimCode(impl.ErrForm)
	case !wantBeats(c, own):
		return oldClaim(own)
	case c.Inc+1 > 1000000:
		return claimCode(impl.ErrFull)
	}
	return madeClaim(aClaim(own.Node, c.Inc+1, 0, own.Meta))
}

func TestRefuteBy(t *testing.T) {
	for node := range int64(4) {
		for _, row := range []struct {
			inc, status, meta          int64
			toldInc, toldStatus, other int64
			want                       int64 // the Inc that is made; -1: none is
		}{
			// It beats by its Inc, by its Status, by neither.
			{2, 0, 7, 3, 0, 8, 4}, {2, 0, 7, 3, 1, 8, 4}, {2, 0, 7, 3, 2, 7, 4}, {2, 0, 7, 9, 0, 7, 10}, {2, 2, 7, 3, 0, 7, 4}, {2, 1, 7, 3, 1, 7, 4},
			{2, 0, 7, 2, 1, 7, 3}, {2, 0, 7, 2, 2, 8, 3}, {2, 1, 7, 2, 2, 7, 3}, {0, 0, 0, 0, 1, 0, 1}, {0, 0, 0, 0, 2, 9999999, 1},
			{2, 0, 7, 1, 2, 7, -1}, {2, 0, 7, 1, 0, 7, -1}, {2, 0, 7, 0, 1, 8, -1}, {2, 1, 7, 2, 0, 7, -1}, {2, 2, 7, 2, 1, 7, -1}, {2, 2, 7, 1, 2, 7, -1},
			// The same, and the same but for its Meta.
			{2, 0, 7, 2, 0, 7, -1}, {2, 0, 7, 2, 0, 8, -1}, {2, 1, 7, 2, 1, 6, -1}, {2, 2, 0, 2, 2, 9999999, -1}, {1000000, 0, 7, 1000000, 0, 8, -1},
			// Near the greatest Inc: room for one more.
			{2, 0, 7, 999999, 0, 7, 1000000}, {999999, 0, 7, 999999, 1, 7, 1000000}, {999998, 0, 7, 999999, 2, 7, 1000000}, {999999, 2, 7, 999998, 2, 7, -1},
			{1000000, 0, 7, 999999, 2, 7, -1}, {1000000, 2, 7, 1000000, 1, 7, -1}, {1000000, 2, 7, 1000000, 2, 7, -1},
		} {
			own, c := aClaim(node, row.inc, row.status, row.meta), aClaim(node, row.toldInc, row.toldStatus, row.other)
			want := oldClaim(own)
			if row.want >= 0 {
				want = madeClaim(aClaim(node, row.want, 0, row.meta))
			}
			checkClaim(t, fmt.Sprintf("RefuteBy of %v and %v", own, c), impl.RefuteBy(own, c), want)
			checkClaim(t, "by the document's words", wantRefuted(own, c), want)
		}
	}
}

func TestRefuteByOfTheGreatestInc(t *testing.T) {
	for _, row := range []struct {
		own, c impl.Claim
		want   impl.ClaimResult
	}{
		{aClaim(1, 2, 0, 7), aClaim(1, 1000000, 0, 7), claimCode(impl.ErrFull)}, {aClaim(1, 2, 0, 7), aClaim(1, 1000000, 2, 7), claimCode(impl.ErrFull)},
		{aClaim(1, 999999, 2, 7), aClaim(1, 1000000, 0, 7), claimCode(impl.ErrFull)}, {aClaim(0, 1000000, 0, 0), aClaim(0, 1000000, 1, 0), claimCode(impl.ErrFull)},
		{aClaim(3, 1000000, 1, 7), aClaim(3, 1000000, 2, 7), claimCode(impl.ErrFull)}, {aClaim(3, 1000000, 0, 7), aClaim(3, 1000000, 2, 9), claimCode(impl.ErrFull)},
		// There is no room, but none is needed.
		{aClaim(1, 1000000, 0, 7), aClaim(1, 1000000, 0, 9), oldClaim(aClaim(1, 1000000, 0, 7))}, {aClaim(1, 1000000, 1, 7), aClaim(1, 1000000, 0, 7), oldClaim(aClaim(1, 1000000, 1, 7))},
		// What was told has its Inc, not what it claimed.
		{aClaim(1, 0, 0, 7), aClaim(1, 999999, 0, 7), madeClaim(aClaim(1, 1000000, 0, 7))}, {aClaim(1, 999999, 1, 7), aClaim(1, 999999, 2, 7), madeClaim(aClaim(1, 1000000, 0, 7))},
	} {
		checkClaim(t, fmt.Sprintf("RefuteBy of %v and %v", row.own, row.c), impl.RefuteBy(row.own, row.c), row.want)
	}
}

func TestRefuteByInItsOrder(t *testing.T) {
	own, above := aClaim(1, 5, 0, 7), aClaim(2, 1000000, 2, 7)
	checkClaim(t, "RefuteBy of another node", impl.RefuteBy(own, aClaim(2, 4, 0, 7)), claimCode(impl.ErrForm))
	checkClaim(t, "RefuteBy of another node", impl.RefuteBy(own, aClaim(0, 5, 0, 7)), claimCode(impl.ErrForm))
	checkClaim(t, "RefuteBy of another node", impl.RefuteBy(own, aClaim(3, 6, 1, 7)), claimCode(impl.ErrForm))
	// ErrForm ahead of ErrFull.
	checkClaim(t, "RefuteBy of another node and the greatest Inc", impl.RefuteBy(own, above), claimCode(impl.ErrForm))
	checkClaim(t, "RefuteBy of another node and the greatest Inc", impl.RefuteBy(aClaim(0, 1000000, 0, 7), above), claimCode(impl.ErrForm))
	for _, wrong := range wrongClaims() {
		for _, node := range []int64{0, 1, 2, 3, wrong.Node} {
			other := aClaim(node, 1000000, 2, 7)
			checkClaim(t, fmt.Sprintf("RefuteBy of %v and %v", wrong, other), impl.RefuteBy(wrong, other), claimCode(impl.ErrRange))
			// A fault of c ahead of ErrForm and of ErrFull.
			checkClaim(t, fmt.Sprintf("RefuteBy of %v and %v", other, wrong), impl.RefuteBy(other, wrong), claimCode(impl.ErrRange))
			other.Inc, other.Status = 0, 0
			checkClaim(t, fmt.Sprintf("RefuteBy of %v and %v", other, wrong), impl.RefuteBy(other, wrong), claimCode(impl.ErrRange))
		}
		checkClaim(t, "RefuteBy of two that are wrong", impl.RefuteBy(wrong, wrong), claimCode(impl.ErrRange))
	}
	for _, inc := range boundsOf(0, 1000000) {
		own, c := aClaim(2, 1, 0, 7), aClaim(2, inc, 0, 8)
		checkClaim(t, fmt.Sprint("RefuteBy of the Inc ", inc), impl.RefuteBy(own, c), wantRefuted(own, c))
		checkClaim(t, fmt.Sprint("RefuteBy by the Inc ", inc), impl.RefuteBy(c, own), wantRefuted(c, own))
	}
}

// TestWhoRefutesBeats holds the promise: it beats what was told, and what it claimed.
func TestWhoRefutesBeats(t *testing.T) {
	var claims []impl.Claim
	for n := range int64(48) {
		claims = append(claims, aClaim(n%2, []int64{0, 1, 5, 6, 999998, 999999, 1000000, 2}[n/6], n/2%3, n%5))
	}
	claims = append(append(claims, wrongClaims()...), aClaim(3, 5, 1, 9999999))
	for _, own := range claims {
		for _, c := range claims {
			got := impl.RefuteBy(own, c)
			checkClaim(t, fmt.Sprintf("RefuteBy of %v and %v", own, c), got, wantRefuted(own, c))
			if got.Code != impl.OK {
				continue
			}
			if got.Made != impl.Beats(c, own) || !got.Made && got.Claim != own || impl.Beats(c, got.Claim) || impl.ClaimFault(got.Claim) != impl.OK {
				t.Errorf("RefuteBy of %v and %v: %v", own, c, got)
			}
			if got.Made && (!impl.Beats(got.Claim, c) || !impl.Beats(got.Claim, own) || got.Claim.Status != 0 || got.Claim.Meta != own.Meta || got.Claim.Node != own.Node) {
				t.Errorf("RefuteBy of %v and %v does not refute: %v", own, c, got)
			}
		}
	}
}

// wantSuspected is SuspectBy by the document's words.
func wantSuspected(view []impl.Claim, node int64) impl.ClaimResult {
	found := wantClaim(view, node)
	switch {
	case found.Code != impl.OK:
		return claimCode(found.Code)
	case found.View[0].Status == 0:
		c := found.View[0]
		return madeClaim(aClaim(c.Node, c.Inc, 1, c.Meta))
	}
	return oldClaim(found.View[0])
}

func TestSuspectBy(t *testing.T) {
	view := []impl.Claim{aClaim(0, 7, 0, 5), aClaim(1, 3, 1, 6), aClaim(3, 9, 2, 8)}
	checkClaim(t, "SuspectBy of one that is alive", impl.SuspectBy(view, 0), madeClaim(aClaim(0, 7, 1, 5)))
	checkClaim(t, "SuspectBy of one that is suspect", impl.SuspectBy(view, 1), oldClaim(view[1]))
	checkClaim(t, "SuspectBy of one that is dead", impl.SuspectBy(view, 3), oldClaim(view[2]))
	for _, node := range []int64{2, -1, 4, -2, 5, 256, 1 << 32, 1<<32 + 1, -1 << 32, math.MinInt64, math.MaxInt64} {
		checkClaim(t, fmt.Sprint("SuspectBy of ", node), impl.SuspectBy(view, node), claimCode(impl.ErrNone))
		checkClaim(t, fmt.Sprint("SuspectBy of no claims and ", node), impl.SuspectBy(nil, node), claimCode(impl.ErrNone))
		checkClaim(t, fmt.Sprint("SuspectBy of no claims and ", node), impl.SuspectBy([]impl.Claim{}, node), claimCode(impl.ErrNone))
		// A fault of the view ahead of it.
		checkClaim(t, "SuspectBy of a wrong view", impl.SuspectBy(aView(1, 1), node), claimCode(impl.ErrForm))
		checkClaim(t, "SuspectBy of a wrong view", impl.SuspectBy(make([]impl.Claim, 5), node), claimCode(impl.ErrMany))
	}
	checkClaim(t, "SuspectBy of a wrong view", impl.SuspectBy(aView(1, 4), 1), claimCode(impl.ErrRange))
	checkClaim(t, "SuspectBy of a wrong view", impl.SuspectBy(aView(1, 4), 4), claimCode(impl.ErrRange))
	for _, c := range []impl.Claim{aClaim(2, 0, 0, 0), aClaim(2, 1000000, 0, 9999999)} {
		checkClaim(t, "SuspectBy at the bounds", impl.SuspectBy([]impl.Claim{c}, 2), madeClaim(aClaim(2, c.Inc, 1, c.Meta)))
	}
}

func TestSuspectByOfManyViews(t *testing.T) {
	for _, view := range append(rightViews(), wrongViews()...) {
		for _, node := range append(boundsOf(0, 3), 2) {
			got := impl.SuspectBy(view, node)
			checkClaim(t, fmt.Sprintf("SuspectBy of %v and %d", view, node), got, wantSuspected(view, node))
			if got.Code == impl.OK {
				checkOfOneTime(t, view, got)
			}
		}
	}
}

// checkOfOneTime holds the promise: what is made is of the time of what is there, and beats that; else it is that.
func checkOfOneTime(t *testing.T, view []impl.Claim, got impl.ClaimResult) {
	t.Helper()
	there := impl.FindClaim(view, got.Claim.Node).View[0]
	if got.Claim.Inc != there.Inc || got.Claim.Meta != there.Meta || got.Made != impl.Beats(got.Claim, there) || !got.Made && got.Claim != there {
		t.Errorf("of %v it is told: %v", view, got)
	}
	if merged := impl.MergeClaim(view, got.Claim); merged.Code != impl.OK || merged.Changed != got.Made {
		t.Errorf("%v is merged into %v: %v", got, view, merged)
	}
}

// wantBuried is BuryBy by the document's words.
func wantBuried(view []impl.Claim, w impl.Wait) impl.ClaimResult {
	if code := wantViewFault(view); code != impl.OK {
		return claimCode(code)
	}
	if code := wantWaitFault(w); code != impl.OK {
		return claimCode(code)
	}
	found := wantClaim(view, w.Node)
	if found.Code != impl.OK {
		return claimCode(found.Code)
	}
	c := found.View[0]
	if w.Kind == 3 && c.Status == 1 && c.Inc == w.Inc {
		return madeClaim(aClaim(c.Node, c.Inc, 2, c.Meta))
	}
	return oldClaim(c)
}

func TestBuryBy(t *testing.T) {
	for kind := int64(1); kind <= 4; kind++ {
		for status := range int64(3) {
			for _, inc := range []int64{0, 1, 5, 1000000} {
				for _, waited := range []int64{inc - 1, inc, inc + 1} {
					if waited < 0 || waited > 1000000 {
						continue
					}
					view := []impl.Claim{aClaim(0, 4, 1, 3), aClaim(2, inc, status, 9), aClaim(3, 6, 1, 4)}
					w := impl.Wait{Kind: kind, Seq: 7, Node: 2, Inc: waited, Left: 1}
					want := oldClaim(view[1])
					if kind == 3 && status == 1 && waited == inc {
						want = madeClaim(aClaim(2, inc, 2, 9))
					}
					checkClaim(t, fmt.Sprintf("BuryBy of %v and %v", view, w), impl.BuryBy(view, w), want)
					checkClaim(t, "by the document's words", wantBuried(view, w), want)
				}
			}
		}
	}
	// Neither its Seq nor how many are Left counts.
	view := []impl.Claim{aClaim(1, 5, 1, 9)}
	for _, seq := range []int64{0, 1, 5, 1000000} {
		for left := int64(1); left <= 9; left++ {
			w := impl.Wait{Kind: 3, Seq: seq, Node: 1, Inc: 5, Left: left}
			checkClaim(t, fmt.Sprintf("BuryBy of %v", w), impl.BuryBy(view, w), madeClaim(aClaim(1, 5, 2, 9)))
		}
	}
	// Nor does who asked.
	checkClaim(t, "BuryBy of who helps", impl.BuryBy(view, impl.Wait{Kind: 4, Seq: 5, Node: 1, Inc: 5, Left: 1, For: 1, Old: 5}), oldClaim(view[0]))
}

func TestBuryByInItsOrder(t *testing.T) {
	right := suspectWait(1, 5, 2)
	checkClaim(t, "BuryBy of one that is not there", impl.BuryBy(nil, right), claimCode(impl.ErrNone))
	checkClaim(t, "BuryBy of one that is not there", impl.BuryBy([]impl.Claim{}, right), claimCode(impl.ErrNone))
	checkClaim(t, "BuryBy of one that is not there", impl.BuryBy([]impl.Claim{aClaim(0, 5, 1, 9), aClaim(2, 5, 1, 9)}, right), claimCode(impl.ErrNone))
	for _, row := range []struct {
		waits []impl.Wait
		code  int64
	}{{formWaits(), impl.ErrForm}, {rangeWaits(), impl.ErrRange}} {
		for _, w := range row.waits {
			// A fault of w ahead of ErrNone, a fault of the view ahead of both.
			checkClaim(t, fmt.Sprintf("BuryBy of %v", w), impl.BuryBy([]impl.Claim{aClaim(0, 0, 1, 9), aClaim(1, 0, 1, 9), aClaim(3, 0, 1, 9)}, w), claimCode(row.code))
			checkClaim(t, fmt.Sprintf("BuryBy of no claims and %v", w), impl.BuryBy(nil, w), claimCode(row.code))
			checkClaim(t, fmt.Sprintf("BuryBy of a wrong view and %v", w), impl.BuryBy(make([]impl.Claim, 5), w), claimCode(impl.ErrMany))
			checkClaim(t, fmt.Sprintf("BuryBy of a wrong view and %v", w), impl.BuryBy([]impl.Claim{{Inc: -1}}, w), claimCode(impl.ErrRange))
			checkClaim(t, fmt.Sprintf("BuryBy of a wrong view and %v", w), impl.BuryBy(aView(1, 1), w), claimCode(impl.ErrForm))
		}
	}
	for _, view := range wrongViews() {
		code := wantViewFault(view)
		checkClaim(t, fmt.Sprintf("BuryBy of %v", view), impl.BuryBy(view, right), claimCode(code))
		checkClaim(t, fmt.Sprintf("BuryBy of %v", view), impl.BuryBy(view, suspectWait(3, 5, 2)), claimCode(code))
		checkClaim(t, fmt.Sprintf("SuspectBy of %v", view), impl.SuspectBy(view, 1), claimCode(code))
	}
	for _, node := range boundsOf(0, 3) {
		w := suspectWait(node, 0, 1)
		checkClaim(t, fmt.Sprint("BuryBy of the Node ", node), impl.BuryBy([]impl.Claim{{Status: 1}, {Node: 3, Status: 1}}, w), wantBuried([]impl.Claim{{Status: 1}, {Node: 3, Status: 1}}, w))
	}
}

func TestBuryByOfManyViews(t *testing.T) {
	var waits []impl.Wait
	for node := range int64(4) {
		for _, inc := range []int64{0, 1, 5, 999999, 1000000} {
			waits = append(waits, suspectWait(node, inc, 1), impl.Wait{Kind: 1, Node: node, Inc: inc, Left: 9})
		}
	}
	waits = append(append(waits, rightWaits()...), rangeWaits()...)
	for _, view := range append(rightViews(), wrongViews()...) {
		for _, w := range waits {
			got := impl.BuryBy(view, w)
			checkClaim(t, fmt.Sprintf("BuryBy of %v and %v", view, w), got, wantBuried(view, w))
			if got.Code == impl.OK {
				checkOfOneTime(t, view, got)
			}
		}
	}
}

func TestWhoIsSuspectedIsBuried(t *testing.T) {
	// Whoever is alive is suspected, buried by the wait of that time, and refutes both.
	for _, inc := range []int64{0, 1, 77, 999999} {
		own := aClaim(2, inc, 0, 9)
		suspected := impl.SuspectBy([]impl.Claim{own}, 2)
		again := impl.SuspectBy([]impl.Claim{suspected.Claim}, 2)
		buried := impl.BuryBy([]impl.Claim{suspected.Claim}, suspectWait(2, inc, 1))
		late := impl.BuryBy([]impl.Claim{suspected.Claim}, suspectWait(2, inc+1, 1))
		if !suspected.Made || again.Made || again.Claim != suspected.Claim || !buried.Made || late.Made || late.Claim != suspected.Claim {
			t.Errorf("of %v: %v, %v, %v, %v", own, suspected, again, buried, late)
		}
		for _, told := range []impl.Claim{suspected.Claim, buried.Claim} {
			checkClaim(t, "RefuteBy", impl.RefuteBy(own, told), madeClaim(aClaim(2, inc+1, 0, 9)))
		}
		if once := impl.BuryBy([]impl.Claim{buried.Claim}, suspectWait(2, inc, 1)); once != oldClaim(buried.Claim) {
			t.Errorf("who is dead is buried once more: %v", once)
		}
	}
}
