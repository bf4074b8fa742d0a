package tests

import (
	"fmt"
	"slices"
	"testing"

	"loop.example/g00725/impl"
)

// dice are numbers that mix up, and are the same whenever the tests run.
type dice struct {
	state uint64
}

func (d *dice) below(n int) int64 {
	d.state = d.state*6364136223846793005 + 1442695040888963407
	return int64(d.state >> 33 % uint64(n))
}

// oneOf is one of the list.
func oneOf[T any](d *dice, list ...T) T {
	return list[d.below(len(list))]
}

// anyMessage is a message without a fault, such as turns something in a world.
func anyMessage(d *dice) impl.Message {
	seq, node := d.below(8), d.below(4)
	switch d.below(12) {
	case 0, 1:
		return pingOf(seq, node)
	case 2, 3, 4:
		return ackOf(seq)
	case 5, 6:
		return askOf(seq, node)
	case 7:
		id := 1 + d.below(4)
		return oneOf(d, turnOf(1, ringKey(id)), turnOf(2, impl.Key{Id: id}), turnOf(3, impl.Key{Id: id}))
	case 8:
		return claimOf(node, oneOf(d, int64(999999), 1000000, 0, 1000000), d.below(3), d.below(9999999))
	}
	return claimOf(node, d.below(5), d.below(3), d.below(100))
}

// anyData is a letter that nobody sent, or what is none, or what flies already.
func anyData(w *wantWorld, d *dice, node int64) []byte {
	if len(w.Flights) > 0 && d.below(6) == 0 {
		return oneOf(d, w.Flights...).Data
	}
	if d.below(12) == 0 {
		return mixedBytes(int(d.below(60)), int(d.below(200)))
	}
	sender := oneOf(d, d.below(4), d.below(int(len(w.Nodes))), d.below(16))
	counter := d.below(30)
	if sender < int64(len(w.Nodes)) {
		counter = max(0, oneOf(d, w.Nodes[node].Windows[sender].Top, w.Nodes[sender].Counter)+d.below(9)-3)
	}
	var list []impl.Message
	for range d.below(oneOf(d, 3, 5, 13)) {
		list = append(list, anyMessage(d))
	}
	return letterBy(w.t, oneOf(d, w.Nodes[node].Ring.Primary, 1+d.below(4)), sender, counter, list...)
}

// anyEvent is mostly such as can be done.
func anyEvent(w *wantWorld, d *dice) impl.Event {
	node, at := d.below(len(w.Nodes)), d.below(max(1, len(w.Flights)))
	switch d.below(40) {
	case 0:
		return stopOf(d.below(oneOf(d, 4, len(w.Nodes))))
	case 1:
		return oneOf(d, impl.Event{}, tickOf(d.below(6)), comeOf(d.below(45)), pushOf(node, mixedBytes(330, 1)), spoilOf(at, 3, 0), keyOf(node, 1, impl.Key{Id: 3}))
	case 2, 3:
		return loseOf(at)
	case 4, 5, 6:
		return copyOf(at)
	case 7, 8:
		return spoilOf(at, byte(oneOf(d, d.below(40), d.below(256))), 1+d.below(255))
	case 9, 10:
		id := 1 + d.below(4)
		return oneOf(d, keyOf(node, 1, ringKey(id)), keyOf(node, 2, impl.Key{Id: id}), keyOf(node, 3, impl.Key{Id: id}))
	case 11, 12, 13, 14, 15, 16, 17, 18:
		return pushOf(node, anyData(w, d, node))
	case 19, 20, 21, 22, 23, 24, 25, 26, 27:
		return tickOf(node)
	}
	return oneOf(d, comeOf(at), comeOf(0))
}

// anyWorld is a config and events of it, and what they come to by the document's words.
func anyWorld(t *testing.T, seed uint64, count int) (impl.Config, []impl.Event, impl.State) {
	t.Helper()
	d := &dice{seed*977 + 13}
	c := configFor(2 + d.below(3))
	w := firstWorld(t, c)
	var events []impl.Event
	for range count {
		e := anyEvent(w, d)
		events = append(events, e)
		w.do(e)
	}
	return c, events, w.State
}

func TestRunWorldOfManyWorlds(t *testing.T) {
	codes := map[int64]int{}
	var drops, stopped, late, helps, lost int64
	for seed := range uint64(300) {
		c, events, want := anyWorld(t, seed, 150-int(seed%4)*30)
		got := impl.RunWorld(c, events)
		if got.Code != impl.OK || stateText(got.State) != stateText(want) {
			for end := range events {
				checkRun(t, fmt.Sprintf("the world %d behind %d events", seed, end+1), c, events[:end+1]...)
				if t.Failed() {
					break
				}
			}
			t.Fatalf("the world %d is another one", seed)
		}
		for _, code := range want.Codes {
			codes[code]++
		}
		for _, n := range want.Nodes {
			drops += n.Drops
			stopped += either(n.Stopped, 1, 0)
			late += either(n.Own.Inc > 1, 1, 0)
			lost += either(len(want.Flights) == 40, 1, 0)
			for _, wait := range n.Waits {
				helps += either(wait.Kind == 4, 1, 0)
			}
		}
	}
	// They come to all that is told of worlds.
	for _, code := range []int64{impl.OK, impl.ErrForm, impl.ErrMany, impl.ErrRange, impl.ErrNone, impl.ErrTaken, impl.ErrFull, impl.ErrState} {
		if codes[code] == 0 {
			t.Errorf("no event has the code %d", code)
		}
	}
	if drops == 0 || stopped == 0 || late == 0 || helps == 0 || lost == 0 {
		t.Errorf("drops %d, stopped %d, refuted %d, helps %d, full %d", drops, stopped, late, helps, lost)
	}
}

// TestWhatWasDoneStays holds the promise: the state behind some events is the same, whatever is behind them in the list.
func TestWhatWasDoneStays(t *testing.T) {
	for seed := range uint64(3) {
		c, events, _ := anyWorld(t, 500+seed, 40)
		w := firstWorld(t, c)
		for end := range len(events) + 1 {
			// The list goes on behind its end, there where nobody is told of it.
			got := impl.RunWorld(c, events[:end:end+(len(events)-end)/2])
			if stateText(got.State) != stateText(w.State) {
				t.Fatalf("the world %d behind %d events: %v, want %v", seed, end, got.State, w.State)
			}
			whole := impl.RunWorld(c, events).State
			if !slices.Equal(whole.Codes[:end], got.State.Codes) {
				t.Fatalf("the codes of %d events: %v, and of all: %v", end, got.State.Codes, whole.Codes)
			}
			// Events that cannot be done are behind it, and it stays as it is.
			later := impl.RunWorld(c, slices.Concat(events[:end], []impl.Event{{}, {Kind: 9}, tickOf(4)})).State
			if later.Codes = later.Codes[:end]; stateText(later) != stateText(got.State) {
				t.Fatalf("what cannot be done turns the world %d: %v", seed, later)
			}
			if end < len(events) {
				w.do(events[end])
			}
		}
	}
}

// TestWhatFliesToANode holds the promise: what flies to a node is what comes to it, one after the other.
func TestWhatFliesToANode(t *testing.T) {
	for seed := range uint64(40) {
		c, events, want := anyWorld(t, 700+seed, 60)
		s := impl.RunWorld(c, events).State
		count := 0
		for node := range int64(6) {
			got := impl.LettersIn(s, node)
			checkInts(t, fmt.Sprintf("LettersIn to %d", node), got, wantLetters(want, node))
			count += len(got.List)
			for _, at := range got.List {
				after := impl.RunWorld(c, append(slices.Clone(events), comeOf(at))).State
				after.Nodes[node] = s.Nodes[node]
				if !impl.SameNodes(after.Nodes, s.Nodes) {
					t.Errorf("the flight %d to %d turns another node", at, node)
				}
			}
		}
		if count != len(s.Flights) {
			t.Errorf("of %d flights %d are to somebody", len(s.Flights), count)
		}
	}
}

// TestKeyThatIsRolled holds the promise: a key that is installed, used, and whose elder one is removed, each one heard by
// all ahead of the next, takes nothing from anybody, even where they ask each other all the while.
func TestKeyThatIsRolled(t *testing.T) {
	for count := int64(2); count <= 4; count++ {
		for node := range count {
			for _, asks := range []bool{false, true} {
				c := configFor(count)
				var events []impl.Event
				settle := func() impl.State {
					for {
						s := impl.RunWorld(c, events).State
						if len(s.Flights) == 0 {
							return s
						}
						events = append(events, comeOf(0))
					}
				}
				step := func(e impl.Event) impl.State {
					if asks {
						for n := range count {
							events = append(events, tickOf(n))
						}
					}
					// What is asked is still on its way.
					events = append(events, e)
					return settle()
				}
				step(keyOf(node, impl.KeyInstall, ringKey(7)))
				step(keyOf((node+1)%count, impl.KeyUse, impl.Key{Id: 7}))
				s := step(keyOf(node, impl.KeyRemove, impl.Key{Id: 1}))
				if asks {
					s = step(tickOf(node))
				}
				checkEqual(t, "the codes of a key that is rolled", slices.Max(s.Codes), 0)
				for i, n := range s.Nodes {
					if n.Drops != 0 || fmt.Sprint(n.Ring) != fmt.Sprint(ringOf(7, 7)) || !impl.SameViews(n.View, viewFor(count)) {
						t.Errorf("of %d, where %d rolls the key, the node %d is %v", count, node, i, n)
					}
				}
				checkRun(t, "a key that is rolled", c, events...)
			}
		}
	}
	// If one is not heard ahead of the next, something may be dropped: what is sealed by a key that is not there yet.
	c := configFor(2)
	s := checkRun(t, "a key that is used too soon", c, keyOf(0, 1, ringKey(7)), keyOf(0, 2, impl.Key{Id: 7}), tickOf(0), comeOf(2), comeOf(0), comeOf(0))
	checkEqual(t, "drops and ring", fmt.Sprint(s.Nodes[1].Drops, s.Nodes[1].Ring), fmt.Sprint(1, ringOf(7, 1, 7)))
}

// TestNoNumberIsUsedTwice goes over all that flies in worlds of many events: of each sender each number is one letter.
func TestNoNumberIsUsedTwice(t *testing.T) {
	for seed := range uint64(6) {
		d := &dice{seed + 90}
		c := configFor(2 + int64(seed%3))
		w := firstWorld(t, c)
		var events []impl.Event
		seen := map[string]string{}
		for range 70 {
			node, at := d.below(len(w.Nodes)), d.below(max(1, len(w.Flights)))
			e := oneOf(d, tickOf(node), tickOf(node), comeOf(at), comeOf(at), comeOf(at), loseOf(at), copyOf(at), keyOf(node, 1, ringKey(1+d.below(4))))
			events = append(events, e)
			w.do(e)
			for _, f := range impl.RunWorld(c, events).State.Flights {
				// The key and the mark of who sealed it: what else is told of it is sealed by that.
				mark := string(f.Data[1:11])
				if seen[mark] != "" && seen[mark] != string(f.Data) {
					t.Fatalf("two letters have the number %x", mark)
				}
				seen[mark] = string(f.Data)
			}
		}
	}
}
