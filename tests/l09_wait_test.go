package tests

import (
	"fmt"
	"math"
	"slices"
	"testing"

	"loop.example/g00725/impl"
)

// waitsText tells all fields; an empty list and nil are told alike.
func waitsText(got impl.WaitsResult) string {
	return fmt.Sprint(got.Code, got.Waits, got.Expired)
}

func waitsCode(code int64) impl.WaitsResult {
	return impl.WaitsResult{Code: code}
}

func checkWaits(t *testing.T, name string, got impl.WaitsResult, want impl.WaitsResult) {
	t.Helper()
	if waitsText(got) != waitsText(want) {
		t.Errorf("%s: %v, want %v", name, got, want)
	}
}

// wantAged is AgeWaits by the document's words: all are one tick older, and those of which nothing is left are taken out.
func wantAged(list []impl.Wait) impl.WaitsResult {
	if code := wantWaitsFault(list); code != impl.OK {
		return waitsCode(code)
	}
	var aged []impl.Wait
	for _, w := range list {
		aged = append(aged, impl.Wait{Kind: w.Kind, Seq: w.Seq, Node: w.Node, Inc: w.Inc, Left: w.Left - 1, For: w.For, Old: w.Old})
	}
	isLeft := func(w impl.Wait) bool { return w.Left > 0 }
	return impl.WaitsResult{
		Waits:   slices.DeleteFunc(slices.Clone(aged), func(w impl.Wait) bool { return !isLeft(w) }),
		Expired: slices.DeleteFunc(slices.Clone(aged), isLeft),
	}
}

// wantCleared is ClearWaits by the document's words.
func wantCleared(list []impl.Wait, seq int64) impl.WaitsResult {
	if code := wantWaitsFault(list); code != impl.OK {
		return waitsCode(code)
	}
	if seq < 0 || seq > 1000000 {
		return waitsCode(impl.ErrRange)
	}
	isOver := func(w impl.Wait) bool { return w.Seq == seq && (w.Kind == 1 || w.Kind == 2 || w.Kind == 4) }
	return impl.WaitsResult{
		Waits:   slices.DeleteFunc(slices.Clone(list), isOver),
		Expired: slices.DeleteFunc(slices.Clone(list), func(w impl.Wait) bool { return !isOver(w) }),
	}
}

func TestAgeWaits(t *testing.T) {
	ping, ask, suspect, help := waitOf(1, 7, 1, 1), waitOf(2, 7, 2, 1), suspectWait(3, 4, 1), helpWait(9, 1, 1, 2, 5)
	with := func(w impl.Wait, left int64) impl.Wait {
		w.Left = left
		return w
	}
	for _, row := range []struct {
		list, waits, expired []impl.Wait
	}{
		{nil, nil, nil}, {[]impl.Wait{}, nil, nil},
		// Of one: Left 1 is over, with 0 Left; more goes on.
		{[]impl.Wait{ping}, nil, []impl.Wait{with(ping, 0)}}, {[]impl.Wait{help}, nil, []impl.Wait{with(help, 0)}}, {[]impl.Wait{suspect}, nil, []impl.Wait{with(suspect, 0)}},
		{[]impl.Wait{with(ping, 2)}, []impl.Wait{ping}, nil}, {[]impl.Wait{with(ask, 3)}, []impl.Wait{with(ask, 2)}, nil}, {[]impl.Wait{with(help, 9)}, []impl.Wait{with(help, 8)}, nil},
		// None, all.
		{[]impl.Wait{with(ask, 2), with(ping, 4), with(suspect, 9)}, []impl.Wait{ask, with(ping, 3), with(suspect, 8)}, nil},
		{[]impl.Wait{help, ask, suspect, ping}, nil, []impl.Wait{with(help, 0), with(ask, 0), with(suspect, 0), with(ping, 0)}},
		// Some: both in their order.
		{[]impl.Wait{ping, with(ask, 2)}, []impl.Wait{ask}, []impl.Wait{with(ping, 0)}}, {[]impl.Wait{with(ask, 2), ping}, []impl.Wait{ask}, []impl.Wait{with(ping, 0)}},
		{
			[]impl.Wait{suspect, with(help, 9), ping, with(ping, 2), with(ask, 5), ask, with(suspect, 2), help},
			[]impl.Wait{with(help, 8), ping, with(ask, 4), suspect},
			[]impl.Wait{with(suspect, 0), with(ping, 0), with(ask, 0), with(help, 0)},
		},
		// Those that are alike stay as many.
		{[]impl.Wait{ping, ping, with(ask, 2), with(ask, 2), ping}, []impl.Wait{ask, ask}, []impl.Wait{with(ping, 0), with(ping, 0), with(ping, 0)}},
	} {
		checkWaits(t, fmt.Sprintf("AgeWaits of %v", row.list), impl.AgeWaits(row.list), impl.WaitsResult{Waits: row.waits, Expired: row.expired})
		checkWaits(t, "by the document's words", wantAged(row.list), impl.WaitsResult{Waits: row.waits, Expired: row.expired})
	}
}

func TestAgeWaitsOfManyWaits(t *testing.T) {
	for _, list := range append(rightWaitLists(), wrongWaitLists()...) {
		checkWaits(t, fmt.Sprintf("AgeWaits of %v", list), impl.AgeWaits(list), wantAged(list))
	}
	checkWaits(t, "AgeWaits of too many", impl.AgeWaits(manyWaits(41)), waitsCode(impl.ErrMany))
	checkWaits(t, "AgeWaits of a wrong form", impl.AgeWaits([]impl.Wait{waitOf(1, 7, 1, 2), {Kind: 1, Left: 1, Old: 3}}), waitsCode(impl.ErrForm))
	// What was over is a wait no more, nor is one of a number that would overflow.
	for _, left := range boundsOf(1, 9) {
		if left < 1 || left > 9 {
			checkWaits(t, fmt.Sprint("AgeWaits of Left ", left), impl.AgeWaits([]impl.Wait{waitOf(2, 7, 1, left)}), waitsCode(impl.ErrRange))
		}
	}
}

// TestEachWaitGoesOnOrIsOver holds the promise: tick by tick each one is over when its Left says so, and not sooner.
func TestEachWaitGoesOnOrIsOver(t *testing.T) {
	for _, list := range rightWaitLists() {
		waits := list
		for tick := int64(1); tick <= 10; tick++ {
			got := impl.AgeWaits(waits)
			if got.Code != impl.OK || len(got.Waits)+len(got.Expired) != len(waits) {
				t.Fatalf("AgeWaits of %v: %v", waits, got)
			}
			var over []impl.Wait
			for _, w := range list {
				if w.Left == tick {
					w.Left = 0
					over = append(over, w)
				}
			}
			if !slices.Equal(got.Expired, over) {
				t.Errorf("of %v are over by the tick %d: %v", list, tick, got.Expired)
			}
			checkWaitsFault(t, got.Waits, impl.OK)
			waits = got.Waits
		}
		if len(waits) != 0 {
			t.Errorf("of %v go on for ever: %v", list, waits)
		}
	}
}

func TestClearWaits(t *testing.T) {
	ping, ask, suspect, help := waitOf(1, 7, 1, 1), waitOf(2, 7, 2, 9), suspectWait(3, 4, 2), helpWait(7, 1, 3, 2, 5)
	suspect.Seq = 7
	other, later := waitOf(1, 8, 1, 1), helpWait(6, 1, 1, 1, 7)
	for _, row := range []struct {
		list           []impl.Wait
		seq            int64
		waits, expired []impl.Wait
	}{
		{nil, 0, nil, nil}, {[]impl.Wait{}, 1000000, nil, nil},
		// One of each Kind, alone and together; who suspects stays.
		{[]impl.Wait{ping}, 7, nil, []impl.Wait{ping}}, {[]impl.Wait{ask}, 7, nil, []impl.Wait{ask}}, {[]impl.Wait{help}, 7, nil, []impl.Wait{help}},
		{[]impl.Wait{suspect}, 7, []impl.Wait{suspect}, nil}, {[]impl.Wait{ping, ask, suspect, help}, 7, []impl.Wait{suspect}, []impl.Wait{ping, ask, help}},
		{[]impl.Wait{help, suspect, ask, ping}, 7, []impl.Wait{suspect}, []impl.Wait{help, ask, ping}}, {[]impl.Wait{suspect, suspect, ping}, 7, []impl.Wait{suspect, suspect}, []impl.Wait{ping}},
		// None, one, several of it; both in their order. With which Seq it was asked for another one (Old) does not count.
		{[]impl.Wait{ping, ask, suspect, help}, 6, []impl.Wait{ping, ask, suspect, help}, nil}, {[]impl.Wait{ping, ask, suspect, help}, 8, []impl.Wait{ping, ask, suspect, help}, nil},
		{[]impl.Wait{other, later, ping}, 8, []impl.Wait{later, ping}, []impl.Wait{other}}, {[]impl.Wait{other, ping, later}, 7, []impl.Wait{other, later}, []impl.Wait{ping}},
		{[]impl.Wait{later}, 7, []impl.Wait{later}, nil}, {[]impl.Wait{later}, 6, nil, []impl.Wait{later}},
		{[]impl.Wait{help, other, ping, later, suspect, ask, other, ping}, 7, []impl.Wait{other, later, suspect, other}, []impl.Wait{help, ping, ask, ping}},
		// Neither Node, Inc, Left nor For is the Seq.
		{[]impl.Wait{{Kind: 1, Seq: 5, Node: 2, Inc: 2, Left: 2}, {Kind: 4, Seq: 5, Node: 1, Left: 1, For: 2}}, 2, []impl.Wait{{Kind: 1, Seq: 5, Node: 2, Inc: 2, Left: 2}, {Kind: 4, Seq: 5, Node: 1, Left: 1, For: 2}}, nil},
		// At the bounds of Seq.
		{[]impl.Wait{waitOf(1, 0, 1, 1), waitOf(2, 1, 1, 1)}, 0, []impl.Wait{waitOf(2, 1, 1, 1)}, []impl.Wait{waitOf(1, 0, 1, 1)}},
		{[]impl.Wait{waitOf(1, 999999, 1, 1), waitOf(2, 1000000, 1, 1)}, 1000000, []impl.Wait{waitOf(1, 999999, 1, 1)}, []impl.Wait{waitOf(2, 1000000, 1, 1)}},
	} {
		want := impl.WaitsResult{Waits: row.waits, Expired: row.expired}
		checkWaits(t, fmt.Sprintf("ClearWaits of %v and %d", row.list, row.seq), impl.ClearWaits(row.list, row.seq), want)
		checkWaits(t, "by the document's words", wantCleared(row.list, row.seq), want)
	}
}

func TestClearWaitsOfManyWaits(t *testing.T) {
	for _, list := range append(rightWaitLists(), wrongWaitLists()...) {
		for _, seq := range append(boundsOf(0, 1000000), 2, 5, 7, 8) {
			checkWaits(t, fmt.Sprintf("ClearWaits of %v and %d", list, seq), impl.ClearWaits(list, seq), wantCleared(list, seq))
		}
	}
}

func TestClearWaitsInItsOrder(t *testing.T) {
	for _, seq := range []int64{-1, 1000001, -1 << 32, 1 << 32, 1<<32 + 7, math.MinInt64, math.MaxInt64} {
		checkWaits(t, fmt.Sprint("ClearWaits of nothing and ", seq), impl.ClearWaits(nil, seq), waitsCode(impl.ErrRange))
		checkWaits(t, fmt.Sprint("ClearWaits of ", seq), impl.ClearWaits(manyWaits(40), seq), waitsCode(impl.ErrRange))
		// The fault of the list ahead of that of seq.
		checkWaits(t, "ClearWaits of two that are wrong", impl.ClearWaits(manyWaits(41), seq), waitsCode(impl.ErrMany))
		checkWaits(t, "ClearWaits of two that are wrong", impl.ClearWaits([]impl.Wait{{}}, seq), waitsCode(impl.ErrForm))
		checkWaits(t, "ClearWaits of two that are wrong", impl.ClearWaits([]impl.Wait{waitOf(1, 7, 1, 2), {Kind: 1, Left: 2, For: 1}}, seq), waitsCode(impl.ErrForm))
	}
	checkWaits(t, "ClearWaits of a wrong wait", impl.ClearWaits([]impl.Wait{waitOf(1, 7, 1, 10)}, 7), waitsCode(impl.ErrRange))
	checkWaits(t, "ClearWaits of a wrong wait", impl.ClearWaits([]impl.Wait{waitOf(1, 7, 1, 2), waitOf(0, 7, 1, 2)}, 7), waitsCode(impl.ErrForm))
}

func TestClearedWaitsAreGone(t *testing.T) {
	for _, list := range rightWaitLists() {
		for _, seq := range []int64{0, 7, 8, 1000000} {
			got := impl.ClearWaits(list, seq)
			if len(got.Waits)+len(got.Expired) != len(list) {
				t.Errorf("ClearWaits of %v and %d: %v", list, seq, got)
			}
			checkWaitsFault(t, got.Waits, impl.OK)
			checkWaitsFault(t, got.Expired, impl.OK)
			// Once more nothing is gone, and of what is gone all is.
			checkWaits(t, "ClearWaits of what goes on", impl.ClearWaits(got.Waits, seq), impl.WaitsResult{Waits: got.Waits})
			checkWaits(t, "ClearWaits of what is over", impl.ClearWaits(got.Expired, seq), impl.WaitsResult{Expired: got.Expired})
		}
	}
}
