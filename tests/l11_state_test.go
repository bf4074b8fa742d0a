package tests

import (
	"fmt"
	"math"
	"slices"
	"testing"

	"loop.example/g00725/impl"
)

// wantLetters is LettersIn by the document's words.
func wantLetters(s impl.State, node int64) impl.IntsResult {
	if len(s.Flights) > 40 {
		return impl.IntsResult{Code: impl.ErrMany}
	}
	var out impl.IntsResult
	for i := range s.Flights {
		if s.Flights[i].To == node {
			out.List = append(out.List, int64(i))
		}
	}
	return out
}

func flightsTo(nodes ...int64) []impl.Flight {
	var out []impl.Flight
	for i, node := range nodes {
		out = append(out, impl.Flight{To: node, Data: mixedBytes(i%5, i)})
	}
	return out
}

func TestLettersIn(t *testing.T) {
	for _, row := range []struct {
		to   []int64
		node int64
		want []int64
	}{
		{nil, 0, nil}, {[]int64{}, 3, nil}, {[]int64{0}, 0, []int64{0}}, {[]int64{0}, 1, nil}, {[]int64{1, 0, 1}, 1, []int64{0, 2}}, {[]int64{1, 0, 1}, 0, []int64{1}},
		{[]int64{2, 2, 2, 2}, 2, []int64{0, 1, 2, 3}}, {[]int64{2, 2, 2, 2}, 3, nil}, {[]int64{3, 1, 3, 0, 3}, 3, []int64{0, 2, 4}},
		// To nodes of which there are none: what is asked for is what is told, even so.
		{[]int64{4, -1, 4, 9}, 4, []int64{0, 2}}, {[]int64{4, -1, 4, 9}, -1, []int64{1}}, {[]int64{4, -1, 4, 9}, 0, nil}, {[]int64{4, -1, 4, 9}, 5, nil},
		{[]int64{math.MinInt64, 0, math.MaxInt64, 1 << 32}, 0, []int64{1}}, {[]int64{math.MinInt64, 0, math.MaxInt64}, math.MinInt64, []int64{0}}, {[]int64{math.MinInt64, 0, math.MaxInt64}, math.MaxInt64, []int64{2}},
	} {
		for _, nodes := range [][]impl.NodeState{nil, make([]impl.NodeState, 2), make([]impl.NodeState, 9)} {
			s := impl.State{Nodes: nodes, Flights: flightsTo(row.to...), Codes: []int64{9, -1}}
			checkInts(t, fmt.Sprintf("LettersIn of %v to %d", row.to, row.node), impl.LettersIn(s, row.node), impl.IntsResult{List: row.want})
		}
	}
	for _, count := range []int{39, 40, 41, 42, 80, 296, 1000} {
		for node := range int64(3) {
			s := impl.State{Flights: flightsTo(slices.Repeat([]int64{0, 1}, count)[:count]...)}
			want := wantLetters(s, node)
			checkInts(t, fmt.Sprintf("LettersIn of %d flights", count), impl.LettersIn(s, node), want)
			if (want.Code == impl.ErrMany) != (count > 40) {
				t.Errorf("of %d flights the code is %d", count, want.Code)
			}
		}
	}
	// What lies behind the end of the flights is none.
	checkInts(t, "LettersIn of a shorter list", impl.LettersIn(impl.State{Flights: flightsTo(slices.Repeat([]int64{1}, 50)...)[:2]}, 1), impl.IntsResult{List: []int64{0, 1}})
}

// aNode is a node state of which no field is zero.
func aNode() impl.NodeState {
	return impl.NodeState{
		Own: aClaim(1, 2, 0, 3), View: aView(0, 1), Ring: ringOf(1, 1, 2), Counter: 5, Seq: 6, Last: 7, Drops: 8, Stopped: true,
		Waits: []impl.Wait{waitOf(1, 2, 3, 1), suspectWait(1, 2, 3)}, Windows: []impl.Window{windowOf(3, 1, 3), windowOf(-1)},
	}
}

func noNode() impl.NodeState {
	return impl.NodeState{View: []impl.Claim{}, Waits: []impl.Wait{}, Windows: []impl.Window{}, Ring: impl.Ring{Keys: []impl.Key{}}}
}

// turnedNodes are aNode with one thing turned in each.
func turnedNodes() []impl.NodeState {
	var out []impl.NodeState
	for _, turn := range []func(n *impl.NodeState){
		func(n *impl.NodeState) { n.Own.Node++ }, func(n *impl.NodeState) { n.Own.Inc++ }, func(n *impl.NodeState) { n.Own.Status++ }, func(n *impl.NodeState) { n.Own.Meta++ },
		func(n *impl.NodeState) { n.View[1].Node++ }, func(n *impl.NodeState) { n.View[0].Inc = -1 }, func(n *impl.NodeState) { n.View[1].Status-- }, func(n *impl.NodeState) { n.View[0].Meta++ },
		func(n *impl.NodeState) { n.View = n.View[:1] }, func(n *impl.NodeState) { n.View = nil }, func(n *impl.NodeState) { n.View = append(n.View, impl.Claim{}) }, func(n *impl.NodeState) { slices.Reverse(n.View) },
		func(n *impl.NodeState) { n.Ring.Primary = 2 }, func(n *impl.NodeState) { n.Ring.Keys[0].Id = 9 }, func(n *impl.NodeState) { n.Ring.Keys[1].Bytes[15]++ }, func(n *impl.NodeState) { n.Ring.Keys[1].Bytes = nil },
		func(n *impl.NodeState) { n.Ring.Keys = n.Ring.Keys[:1] }, func(n *impl.NodeState) { n.Ring.Keys = nil }, func(n *impl.NodeState) { slices.Reverse(n.Ring.Keys) }, func(n *impl.NodeState) { n.Ring = impl.Ring{} },
		func(n *impl.NodeState) { n.Counter++ }, func(n *impl.NodeState) { n.Seq++ }, func(n *impl.NodeState) { n.Last = -1 }, func(n *impl.NodeState) { n.Drops-- }, func(n *impl.NodeState) { n.Stopped = false },
		func(n *impl.NodeState) { n.Waits[0].Kind = 2 }, func(n *impl.NodeState) { n.Waits[1].Seq++ }, func(n *impl.NodeState) { n.Waits[0].Node++ }, func(n *impl.NodeState) { n.Waits[1].Inc++ },
		func(n *impl.NodeState) { n.Waits[0].Left++ }, func(n *impl.NodeState) { n.Waits[0].For++ }, func(n *impl.NodeState) { n.Waits[0].Old++ }, func(n *impl.NodeState) { n.Waits = n.Waits[:1] },
		func(n *impl.NodeState) { n.Waits = nil }, func(n *impl.NodeState) { n.Waits = append(n.Waits, impl.Wait{}) }, func(n *impl.NodeState) { slices.Reverse(n.Waits) },
		func(n *impl.NodeState) { n.Windows[0].Top++ }, func(n *impl.NodeState) { n.Windows[0].Seen[0] = 2 }, func(n *impl.NodeState) { n.Windows[0].Seen = n.Windows[0].Seen[:1] }, func(n *impl.NodeState) { n.Windows[1].Seen = []int64{0} },
		func(n *impl.NodeState) { n.Windows = n.Windows[:1] }, func(n *impl.NodeState) { n.Windows = nil }, func(n *impl.NodeState) { n.Windows = append(n.Windows, impl.Window{}) }, func(n *impl.NodeState) { slices.Reverse(n.Windows) },
		func(n *impl.NodeState) { n.Counter, n.Seq = n.Seq, n.Counter }, func(n *impl.NodeState) { n.Seq = math.MinInt64 }, func(n *impl.NodeState) { n.Drops = 1<<32 + 8 },
	} {
		n := aNode()
		turn(&n)
		out = append(out, n)
	}
	return append(out, aNode(), impl.NodeState{}, impl.NodeState{Stopped: true}, impl.NodeState{Last: -1})
}

// checkSameNodes asks both ways round.
func checkSameNodes(t *testing.T, a []impl.NodeState, b []impl.NodeState, want bool) {
	t.Helper()
	if impl.SameNodes(a, b) != want || impl.SameNodes(b, a) != want {
		t.Errorf("SameNodes of %v and %v is not %v", a, b, want)
	}
	// As the nodes of states they tell whether these are the same.
	checkSameStates(t, impl.State{Nodes: a}, impl.State{Nodes: b}, want)
	checkSameStates(t, impl.State{Nodes: a, Flights: flightsTo(1), Codes: []int64{4}}, impl.State{Nodes: b, Flights: flightsTo(1), Codes: []int64{4}}, want)
}

func checkSameStates(t *testing.T, a impl.State, b impl.State, want bool) {
	t.Helper()
	if impl.SameStates(a, b) != want || impl.SameStates(b, a) != want {
		t.Errorf("SameStates of %v and %v is not %v", a, b, want)
	}
}

func TestSameNodes(t *testing.T) {
	nodes := turnedNodes()
	for i := range nodes {
		for k := range nodes {
			checkSameNodes(t, nodes[i:i+1], []impl.NodeState{turnedNodes()[k]}, i == k)
		}
	}
	// Beside others: at each place, of unlike length, in another order.
	a, b := aNode(), turnedNodes()[20]
	for _, row := range []struct {
		a, b []impl.NodeState
		want bool
	}{
		{nil, nil, true}, {nil, []impl.NodeState{}, true}, {nil, []impl.NodeState{{}}, false}, {[]impl.NodeState{{}}, []impl.NodeState{{}, {}}, false},
		{[]impl.NodeState{a, a}, []impl.NodeState{a}, false}, {[]impl.NodeState{a, b}, []impl.NodeState{a, b}, true}, {[]impl.NodeState{a, b}, []impl.NodeState{b, a}, false},
		{[]impl.NodeState{a, b, a}, []impl.NodeState{a, a, a}, false}, {[]impl.NodeState{a, a, b}, []impl.NodeState{a, a, a}, false}, {[]impl.NodeState{b, a, a}, []impl.NodeState{a, a, a}, false},
		{slices.Repeat([]impl.NodeState{a}, 9), slices.Repeat([]impl.NodeState{a}, 9), true}, {slices.Repeat([]impl.NodeState{a}, 9), slices.Repeat([]impl.NodeState{a}, 8), false},
		// An empty list and nil are the same value.
		{[]impl.NodeState{{}}, []impl.NodeState{noNode()}, true}, {[]impl.NodeState{a, {}}, []impl.NodeState{a, noNode()}, true}, {[]impl.NodeState{{}}, []impl.NodeState{{Last: -1}}, false},
		{[]impl.NodeState{{Ring: impl.Ring{Keys: []impl.Key{{Id: 3}}}}}, []impl.NodeState{{Ring: impl.Ring{Keys: []impl.Key{{Id: 3, Bytes: []byte{}}}}}}, true},
		{[]impl.NodeState{{Windows: []impl.Window{{Top: 3}}}}, []impl.NodeState{{Windows: []impl.Window{{Top: 3, Seen: []int64{}}}}}, true},
		{[]impl.NodeState{{Windows: []impl.Window{{}}}}, []impl.NodeState{{}}, false}, {[]impl.NodeState{{Waits: []impl.Wait{{}}}}, []impl.NodeState{{}}, false}, {[]impl.NodeState{{View: []impl.Claim{{}}}}, []impl.NodeState{{}}, false},
	} {
		checkSameNodes(t, row.a, row.b, row.want)
	}
}

func TestSameStates(t *testing.T) {
	a := impl.State{Nodes: []impl.NodeState{aNode(), {}}, Flights: []impl.Flight{{To: 1, Data: []byte{1, 2}}, {To: 2}}, Codes: []int64{0, 4, 3}}
	states := []impl.State{
		a, {}, {Nodes: a.Nodes}, {Flights: a.Flights}, {Codes: a.Codes}, {Nodes: a.Nodes, Flights: a.Flights}, {Nodes: a.Nodes, Codes: a.Codes}, {Flights: a.Flights, Codes: a.Codes},
		{Nodes: a.Nodes[:1], Flights: a.Flights, Codes: a.Codes}, {Nodes: a.Nodes, Flights: a.Flights[:1], Codes: a.Codes}, {Nodes: a.Nodes, Flights: a.Flights, Codes: a.Codes[:2]},
		{Nodes: []impl.NodeState{{}, aNode()}, Flights: a.Flights, Codes: a.Codes}, {Nodes: a.Nodes, Flights: []impl.Flight{{To: 2}, {To: 1, Data: []byte{1, 2}}}, Codes: a.Codes}, {Nodes: a.Nodes, Flights: a.Flights, Codes: []int64{4, 0, 3}},
		{Nodes: a.Nodes, Flights: []impl.Flight{{To: 0, Data: []byte{1, 2}}, {To: 2}}, Codes: a.Codes}, {Nodes: a.Nodes, Flights: []impl.Flight{{To: 1, Data: []byte{1, 3}}, {To: 2}}, Codes: a.Codes},
		{Nodes: a.Nodes, Flights: []impl.Flight{{To: 1, Data: []byte{1}}, {To: 2}}, Codes: a.Codes}, {Nodes: a.Nodes, Flights: []impl.Flight{{To: 1, Data: []byte{1, 2, 0}}, {To: 2}}, Codes: a.Codes},
		{Nodes: a.Nodes, Flights: []impl.Flight{{To: 1, Data: []byte{1, 2}}, {To: 1}}, Codes: a.Codes}, {Nodes: a.Nodes, Flights: []impl.Flight{{To: 1, Data: []byte{1, 2}}, {To: 2, Data: []byte{0}}}, Codes: a.Codes},
		{Nodes: a.Nodes, Flights: []impl.Flight{{To: 1, Data: []byte{1, 2}}, {To: 2 + 1<<32}}, Codes: a.Codes}, {Nodes: a.Nodes, Flights: a.Flights, Codes: []int64{0, 4, 3 + 1<<32}},
		{Nodes: a.Nodes, Flights: a.Flights, Codes: []int64{0, 4, 3, 0}}, {Nodes: a.Nodes, Flights: a.Flights, Codes: []int64{0, 4, math.MinInt64}}, {Nodes: a.Nodes, Flights: flightsTo(slices.Repeat([]int64{1}, 60)...), Codes: make([]int64, 200)},
	}
	for i := range states {
		for k := range states {
			checkSameStates(t, states[i], states[k], i == k)
		}
	}
	checkSameStates(t, impl.State{}, impl.State{Nodes: []impl.NodeState{}, Flights: []impl.Flight{}, Codes: []int64{}}, true)
	checkSameStates(t, impl.State{Flights: []impl.Flight{{}}}, impl.State{Flights: []impl.Flight{{Data: []byte{}}}}, true)
	checkSameStates(t, impl.State{Codes: []int64{0}}, impl.State{}, false)
	for seed := range uint64(8) {
		c, events, want := anyWorld(t, 900+seed, 30)
		s := impl.RunWorld(c, events).State
		checkSameStates(t, s, want, true)
		checkSameStates(t, s, impl.RunWorld(c, events[:29]).State, false)
	}
}
