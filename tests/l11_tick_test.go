package tests

import (
	"fmt"
	"slices"
	"testing"

	"loop.example/g00725/impl"
)

func TestWorldAtFirst(t *testing.T) {
	for _, metas := range [][]int64{{0, 0}, {9999999, 5}, {3, 1, 2}, {65536, 0, 9999999, 65537}} {
		for _, id := range []int64{1, 5, 255} {
			s := checkRun(t, "RunWorld of no events", impl.Config{Key: ringKey(id), Metas: metas})
			checkEqual(t, "how many nodes there are", len(s.Nodes), len(metas))
			checkEqual(t, "what flies and what is told", fmt.Sprint(s.Flights, s.Codes), fmt.Sprint([]impl.Flight{}, []int64{}))
			var view []impl.Claim
			for i, meta := range metas {
				view = append(view, aClaim(int64(i), 1, 0, meta))
			}
			for i, n := range s.Nodes {
				want := impl.NodeState{Own: view[i], View: view, Ring: ringOf(id, id), Last: -1, Windows: slices.Repeat([]impl.Window{{Top: -1}}, len(metas))}
				checkEqual(t, fmt.Sprint("the node at first ", i), n, want)
			}
		}
	}
}

func TestRunWorldOfTooMany(t *testing.T) {
	c := configFor(2)
	for _, count := range []int{0, 1, 149, 150} {
		// Events that nobody can do.
		s := checkRun(t, "RunWorld of many events", c, make([]impl.Event, count)...)
		first := impl.RunWorld(c, nil).State
		checkEqual(t, "the codes of many events", s.Codes, slices.Repeat([]int64{impl.ErrForm}, count))
		if s.Codes = nil; stateText(s) != stateText(first) {
			t.Errorf("events with a code turn the world: %v", s)
		}
	}
	for _, count := range []int{151, 152, 300, 406} {
		for _, e := range []impl.Event{{}, tickOf(0)} {
			got := impl.RunWorld(c, slices.Repeat([]impl.Event{e}, count))
			if got.Code != impl.ErrMany || stateText(got.State) != stateText(impl.State{}) {
				t.Errorf("RunWorld of %d events: %v", count, got)
			}
		}
	}
	if got := impl.RunWorld(c, slices.Repeat([]impl.Event{stopOf(1)}, 150)); got.Code != impl.OK || len(got.State.Codes) != 150 || got.State.Codes[0] != impl.OK || got.State.Codes[149] != impl.ErrState {
		t.Errorf("RunWorld of as many events as there may be: %v", got)
	}
}

// TestAPingToEachInTurn has each ping answered ahead of the next tick.
func TestAPingToEachInTurn(t *testing.T) {
	for _, row := range []struct {
		count, node int64
		asked       []int64
	}{
		{2, 0, []int64{1, 1, 1}}, {2, 1, []int64{0, 0, 0}}, {3, 0, []int64{1, 2, 1, 2}}, {3, 1, []int64{0, 2, 0, 2}}, {3, 2, []int64{0, 1, 0, 1}},
		{4, 0, []int64{1, 2, 3, 1}}, {4, 1, []int64{0, 2, 3, 0}}, {4, 2, []int64{0, 1, 3, 0}}, {4, 3, []int64{0, 1, 2, 0, 1}},
	} {
		var events []impl.Event
		for i, other := range row.asked {
			seq := int64(i + 1)
			events = append(events, tickOf(row.node))
			s := checkRun(t, "a tick", configFor(row.count), events...)
			n := s.Nodes[row.node]
			checkSent(t, "a tick", s, viewFor(row.count), sent{other, 1, row.node, seq - 1, pingOf(seq, other)})
			checkEqual(t, "who waits behind a tick", n.Waits, []impl.Wait{waitOf(1, seq, other, 2)})
			checkEqual(t, "Seq, Last and Counter behind a tick", []int64{n.Seq, n.Last, n.Counter}, []int64{seq, other, seq})
			// The ping comes, and then its answer.
			events = append(events, comeOf(0), comeOf(0))
			s = checkRun(t, "an answer", configFor(row.count), events...)
			if len(s.Flights) != 0 || len(s.Nodes[row.node].Waits) != 0 || s.Nodes[other].Windows[row.node].Top != seq-1 {
				t.Errorf("behind the answer of %d there is: %v", other, s)
			}
		}
	}
}

// TestNobodyAnswers goes through all that a node does where nobody answers it, tick by tick.
func TestNobodyAnswers(t *testing.T) {
	c, first := configFor(3), viewFor(3)
	suspect1, suspect2, dead1 := aClaim(1, 1, 1, 65537), aClaim(2, 1, 1, 65538), aClaim(1, 1, 2, 65537)
	for i, row := range []struct {
		waits           []impl.Wait
		view            []impl.Claim
		seq, last, sent int64
	}{
		{[]impl.Wait{waitOf(1, 1, 1, 2)}, first, 1, 1, 1},
		{[]impl.Wait{waitOf(1, 1, 1, 1)}, first, 1, 1, 1},
		// The ping is over: the other one is asked to help.
		{[]impl.Wait{waitOf(2, 1, 1, 2)}, first, 1, 1, 2},
		{[]impl.Wait{waitOf(2, 1, 1, 1)}, first, 1, 1, 2},
		// That is over: a suspicion begins, and the next one is asked.
		{[]impl.Wait{suspectWait(1, 1, 4), waitOf(1, 2, 2, 2)}, viewWith(first, suspect1), 2, 2, 3},
		{[]impl.Wait{suspectWait(1, 1, 3), waitOf(1, 2, 2, 1)}, viewWith(first, suspect1), 2, 2, 3},
		// There is none to help: whoever is suspect is not asked.
		{[]impl.Wait{suspectWait(1, 1, 2), waitOf(2, 2, 2, 2)}, viewWith(first, suspect1), 2, 2, 3},
		{[]impl.Wait{suspectWait(1, 1, 1), waitOf(2, 2, 2, 1)}, viewWith(first, suspect1), 2, 2, 3},
		// Both are over at once: a burial and a suspicion. Whoever is dead is asked in its turn.
		{[]impl.Wait{suspectWait(2, 1, 4), waitOf(1, 3, 1, 2)}, viewWith(first, dead1, suspect2), 3, 1, 4},
		{[]impl.Wait{suspectWait(2, 1, 3), waitOf(1, 3, 1, 1)}, viewWith(first, dead1, suspect2), 3, 1, 4},
		{[]impl.Wait{suspectWait(2, 1, 2), waitOf(2, 3, 1, 2)}, viewWith(first, dead1, suspect2), 3, 1, 4},
		{[]impl.Wait{suspectWait(2, 1, 1), waitOf(2, 3, 1, 1)}, viewWith(first, dead1, suspect2), 3, 1, 4},
		// Of one that is dead no suspicion begins.
		{[]impl.Wait{waitOf(1, 4, 2, 2)}, viewWith(first, dead1, aClaim(2, 1, 2, 65538)), 4, 2, 5},
	} {
		name := fmt.Sprintf("behind %d ticks", i+1)
		s := checkRun(t, name, c, slices.Repeat([]impl.Event{tickOf(0)}, i+1)...)
		n := s.Nodes[0]
		checkEqual(t, "waits "+name, n.Waits, row.waits)
		checkEqual(t, "the view "+name, n.View, row.view)
		checkEqual(t, "Seq, Last, Counter and flights "+name, []int64{n.Seq, n.Last, n.Counter, int64(len(s.Flights))}, []int64{row.seq, row.last, row.sent, row.sent})
		checkEqual(t, "Own and Drops "+name, fmt.Sprint(n.Own, n.Drops), fmt.Sprint(first[0], 0))
		checkEqual(t, "the others "+name, s.Nodes[1:], impl.RunWorld(c, nil).State.Nodes[1:])
	}
	s := impl.RunWorld(c, slices.Repeat([]impl.Event{tickOf(0)}, 4)).State
	checkSent(t, "an ask", s, first, sent{1, 1, 0, 0, pingOf(1, 1)}, sent{2, 1, 0, 1, askOf(1, 1)})
	// What is known behind the suspicion is told with the ping of the same tick.
	s = impl.RunWorld(c, slices.Concat(slices.Repeat([]impl.Event{tickOf(0)}, 5), []impl.Event{loseOf(0), loseOf(0)})).State
	checkSent(t, "a ping behind a suspicion", s, viewWith(first, suspect1), sent{2, 1, 0, 2, pingOf(2, 2)})
}

func TestHelpersThatAreAsked(t *testing.T) {
	for _, row := range []struct {
		count, node int64
		helpers     []int64
	}{
		{2, 0, nil}, {2, 1, nil}, {3, 0, []int64{2}}, {3, 1, []int64{2}}, {3, 2, []int64{1}}, {4, 0, []int64{2, 3}}, {4, 1, []int64{2, 3}}, {4, 2, []int64{1, 3}}, {4, 3, []int64{1, 2}},
	} {
		asked := int64(0)
		if row.node == 0 {
			asked = 1
		}
		s := checkRun(t, "asks", configFor(row.count), slices.Repeat([]impl.Event{tickOf(row.node)}, 3)...)
		want := []sent{{asked, 1, row.node, 0, pingOf(1, asked)}}
		for i, helper := range row.helpers {
			want = append(want, sent{helper, 1, row.node, int64(i + 1), askOf(1, asked)})
		}
		checkSent(t, fmt.Sprint("asks of ", row), s, viewFor(row.count), want...)
		// One wait, however many are asked, even if none is.
		checkEqual(t, fmt.Sprint("waits of ", row), s.Nodes[row.node].Waits, []impl.Wait{waitOf(2, 1, asked, 2)})
	}
	// Of four only those who are alive, and two of them at most.
	for _, row := range []struct {
		claims  []impl.Message
		helpers []int64
	}{
		{[]impl.Message{claimOf(2, 1, 1, 5)}, []int64{3}}, {[]impl.Message{claimOf(3, 1, 2, 5)}, []int64{2}}, {[]impl.Message{claimOf(2, 2, 2, 5), claimOf(3, 2, 1, 5)}, nil},
		{[]impl.Message{claimOf(1, 1, 2, 5)}, []int64{2, 3}}, {[]impl.Message{claimOf(2, 1, 1, 5), claimOf(2, 2, 0, 5)}, []int64{2, 3}},
	} {
		s := checkRun(t, "asks", configFor(4), pushOf(0, letterBy(t, 1, 1, 0, row.claims...)), comeOf(0), tickOf(0), tickOf(0), tickOf(0), loseOf(0))
		var to []int64
		for _, f := range s.Flights {
			to = append(to, f.To)
		}
		checkEqual(t, fmt.Sprint("who helps behind ", row.claims), to, row.helpers)
	}
}

// TestSuspicionThatIsThere asks by which Node and Inc it is the same one.
func TestSuspicionThatIsThere(t *testing.T) {
	ticks := func(count int) []impl.Event { return slices.Repeat([]impl.Event{tickOf(0)}, count) }
	ask := waitOf(1, 2, 2, 2)
	for _, row := range []struct {
		name   string
		claims []impl.Message
		waits  []impl.Wait
		status int64
	}{
		{"nobody suspects", nil, []impl.Wait{suspectWait(1, 1, 4), ask}, 1},
		{"it is suspected", []impl.Message{claimOf(1, 1, 1, 65537)}, []impl.Wait{suspectWait(1, 1, 3), ask}, 1},
		{"another one is suspected", []impl.Message{claimOf(2, 1, 1, 65538)}, []impl.Wait{suspectWait(2, 1, 3), suspectWait(1, 1, 4), ask}, 1},
		{"it is suspected with a later Inc", []impl.Message{claimOf(1, 5, 1, 65537)}, []impl.Wait{suspectWait(1, 5, 3), ask}, 1},
		{"it was suspected, and refuted that", []impl.Message{claimOf(1, 1, 1, 65537), claimOf(1, 2, 0, 65537)}, []impl.Wait{suspectWait(1, 1, 3), suspectWait(1, 2, 4), ask}, 1},
		{"it was suspected twice", []impl.Message{claimOf(1, 1, 1, 65537), claimOf(1, 2, 1, 65537)}, []impl.Wait{suspectWait(1, 1, 3), suspectWait(1, 2, 3), ask}, 1},
		{"it is dead", []impl.Message{claimOf(1, 1, 2, 65537)}, []impl.Wait{ask}, 2},
		{"it was suspected, and is dead", []impl.Message{claimOf(1, 1, 1, 65537), claimOf(1, 1, 2, 65537)}, []impl.Wait{suspectWait(1, 1, 3), ask}, 2},
		{"another one of the same Inc is suspected", []impl.Message{claimOf(1, 3, 0, 65537), claimOf(2, 3, 1, 65538)}, []impl.Wait{suspectWait(2, 3, 3), suspectWait(1, 3, 4), ask}, 1},
	} {
		// It is heard just ahead of the tick by which the ask is over.
		events := slices.Concat(ticks(4), []impl.Event{pushOf(0, letterBy(t, 1, 2, 0, row.claims...)), comeOf(2)}, ticks(1))
		s := checkRun(t, row.name, configFor(3), events...)
		checkEqual(t, "waits: "+row.name, s.Nodes[0].Waits, row.waits)
		checkEqual(t, "Status: "+row.name, s.Nodes[0].View[1].Status, row.status)
	}
}

func TestSuspicionThatEnds(t *testing.T) {
	ticks := func(count int) []impl.Event { return slices.Repeat([]impl.Event{tickOf(0)}, count) }
	suspect := pushOf(0, letterBy(t, 1, 2, 0, claimOf(1, 4, 1, 7)))
	for _, row := range []struct {
		name   string
		claims []impl.Message
		want   impl.Claim
	}{
		{"nobody refutes it", nil, aClaim(1, 4, 2, 7)},
		{"it is refuted", []impl.Message{claimOf(1, 5, 0, 7)}, aClaim(1, 5, 0, 7)},
		{"it is refuted, and suspected anew", []impl.Message{claimOf(1, 5, 0, 7), claimOf(1, 5, 1, 8)}, aClaim(1, 5, 1, 8)},
		{"it is told once more", []impl.Message{claimOf(1, 4, 1, 8)}, aClaim(1, 4, 2, 7)},
		{"it is buried by another one", []impl.Message{claimOf(1, 4, 2, 8)}, aClaim(1, 4, 2, 8)},
		{"what is elder is told", []impl.Message{claimOf(1, 3, 2, 8), claimOf(1, 4, 0, 9)}, aClaim(1, 4, 2, 7)},
	} {
		told := pushOf(0, letterBy(t, 1, 2, 1, row.claims...))
		for count := range 6 {
			events := slices.Concat([]impl.Event{suspect, comeOf(0), told, comeOf(0)}, ticks(count))
			s := checkRun(t, row.name, configFor(3), events...)
			want := row.want
			// A suspicion that nobody refuted ends by its fourth tick, and not sooner.
			if count < 4 && want == aClaim(1, 4, 2, 7) {
				want.Status = 1
			}
			if count < 4 || want.Inc == 4 {
				checkEqual(t, fmt.Sprintf("%s, behind %d ticks", row.name, count), s.Nodes[0].View[1], want)
			}
		}
	}
}

// TestWaitsOfEachKindAreOver has a wait of each Kind over by one tick: what they do goes by their order.
func TestWaitsOfEachKindAreOver(t *testing.T) {
	c := configFor(4)
	ask := pushOf(0, letterBy(t, 1, 3, 0, askOf(77, 2), claimOf(3, 1, 1, 5)))
	suspect := pushOf(0, letterBy(t, 1, 3, 1, claimOf(2, 1, 1, 6), claimOf(2, 3, 1, 6)))
	events := []impl.Event{suspect, comeOf(0), tickOf(0), ask, comeOf(1), tickOf(0), tickOf(0), tickOf(0), tickOf(0), tickOf(0)}
	for end := range len(events) + 1 {
		checkRun(t, "waits of each Kind", c, events[:end]...)
	}
	s := impl.RunWorld(c, events[:6]).State
	checkEqual(t, "waits ahead of it", s.Nodes[0].Waits, []impl.Wait{suspectWait(2, 1, 2), suspectWait(2, 3, 2), waitOf(1, 1, 1, 1), helpWait(2, 2, 2, 3, 77), suspectWait(3, 1, 3)})
	s = impl.RunWorld(c, events[:8]).State
	checkEqual(t, "waits then", s.Nodes[0].Waits, []impl.Wait{suspectWait(3, 1, 1), waitOf(2, 1, 1, 1)})
	checkEqual(t, "the view then", s.Nodes[0].View, viewWith(viewFor(4), aClaim(2, 3, 2, 6), aClaim(3, 1, 1, 5)))
	s = impl.RunWorld(c, events[:9]).State
	checkEqual(t, "waits behind it", s.Nodes[0].Waits, []impl.Wait{suspectWait(1, 1, 4), waitOf(1, 3, 2, 2)})
	checkEqual(t, "the view behind it", s.Nodes[0].View, viewWith(viewFor(4), aClaim(1, 1, 1, 65537), aClaim(2, 3, 2, 6), aClaim(3, 1, 2, 5)))
}

// TestOrderOfWhatIsOver has two waits of one tick of which the second one sees what the first one did.
func TestOrderOfWhatIsOver(t *testing.T) {
	// The node 1 waits for the node 0, and the node 2 is told to be suspect: as long as it is not dead it is nobody's helper.
	c := configFor(3)
	ticks := slices.Repeat([]impl.Event{tickOf(0)}, 2)
	told := []impl.Event{pushOf(0, letterBy(t, 1, 2, 0, claimOf(1, 1, 1, 7))), comeOf(0)}
	// The suspicion begins ahead of the ping, two ticks sooner, so that its end is ahead of that of the ask.
	s := checkRun(t, "a burial ahead of a suspicion", c, slices.Concat(told, ticks, ticks, ticks[:1])...)
	checkEqual(t, "the view", s.Nodes[0].View[1], aClaim(1, 1, 2, 7))
	checkEqual(t, "the waits", s.Nodes[0].Waits, []impl.Wait{waitOf(1, 2, 2, 2)})
	// Both by one tick, the suspicion first: what is dead is not suspected.
	s = checkRun(t, "a burial and a suspicion", c, slices.Concat(ticks[:1], told[:1], []impl.Event{comeOf(1)}, ticks, ticks)...)
	checkEqual(t, "the view", s.Nodes[0].View[1], aClaim(1, 1, 2, 7))
	checkEqual(t, "the waits", s.Nodes[0].Waits, []impl.Wait{waitOf(1, 2, 2, 2)})
}

// fullOfWaits has the node 0 of four wait as often as it may: it is asked for others again and again, and what flies is
// lost.
func fullOfWaits(t *testing.T, count int) []impl.Event {
	t.Helper()
	var events []impl.Event
	for i := 0; i < count; i += 10 {
		var asks []impl.Message
		for k := i; k < min(i+10, count); k++ {
			asks = append(asks, askOf(int64(100+k), 2))
		}
		events = append(events, pushOf(0, letterBy(t, 1, 3, int64(i), asks...)), comeOf(0))
		events = append(events, slices.Repeat([]impl.Event{loseOf(0)}, len(asks))...)
	}
	return events
}

func TestNoMoreWaits(t *testing.T) {
	c := configFor(4)
	for _, count := range []int{38, 39, 40, 41, 50} {
		full := fullOfWaits(t, count)
		s := checkRun(t, "as many waits as there may be", c, full...)
		waits := min(count, 40)
		if n := s.Nodes[0]; len(n.Waits) != waits || n.Seq != int64(count) || n.Counter != int64(count) || n.Waits[waits-1] != helpWait(int64(waits), 2, 3, 3, int64(99+waits)) {
			t.Errorf("behind %d asks the node is %v", count, n)
		}
		// One that suspects, and a ping: they are put behind the others, if there is room for them.
		suspect := pushOf(0, letterBy(t, 1, 3, 60, claimOf(1, 1, 1, 7), claimOf(2, 1, 1, 8)))
		s = checkRun(t, "suspicions beside many waits", c, slices.Concat(full, []impl.Event{suspect, comeOf(0)})...)
		checkEqual(t, "how many waits there are behind suspicions", len(s.Nodes[0].Waits), min(count+2, 40))
		s = checkRun(t, "pings beside many waits", c, slices.Concat(full, []impl.Event{tickOf(0), tickOf(0)})...)
		n := s.Nodes[0]
		checkEqual(t, "how many waits there are behind a ping", len(n.Waits), min(count+1, 40))
		// Without a wait for the ping the next tick sends one more.
		if pings := either(count < 40, 1, 2); n.Seq != int64(count)+pings || n.Last != pings || int64(len(s.Flights)) != pings {
			t.Errorf("beside %d waits %d is asked at the last, with the Seq %d", count, n.Last, n.Seq)
		}
		checkRun(t, "many waits that are over", c, slices.Concat(full, slices.Repeat([]impl.Event{tickOf(0)}, 12))...)
	}
}

// TestNoMoreFlights has MaxFlights fly: what a node sends then is lost, and its Counter goes on all the same.
func TestNoMoreFlights(t *testing.T) {
	c := configFor(4)
	for _, count := range []int{37, 38, 39, 40} {
		full := slices.Repeat([]impl.Event{pushOf(3, []byte{9})}, count)
		s := checkRun(t, "flights beside many others", c, slices.Concat(full, slices.Repeat([]impl.Event{tickOf(0)}, 3))...)
		n := s.Nodes[0]
		if n.Counter != 3 || n.Seq != 1 || len(s.Flights) != min(count+3, 40) || fmt.Sprint(n.Waits) != fmt.Sprint([]impl.Wait{waitOf(2, 1, 1, 2)}) {
			t.Errorf("behind %d flights there are %d, and the node is %v", count, len(s.Flights), n)
		}
		// A key is told to three others: to the first ones of them, and none of it once more.
		s = checkRun(t, "a key beside many flights", c, slices.Concat(full, []impl.Event{keyOf(1, 1, ringKey(2))})...)
		var to []int64
		for _, f := range s.Flights[count:] {
			to = append(to, f.To)
		}
		checkEqual(t, "who hears of the key", to, []int64{0, 2, 3}[:min(3, 40-count)])
		checkEqual(t, "the Counter", s.Nodes[1].Counter, 3)
		// There is room again, and what is sent then has a number of its own.
		s = checkRun(t, "flights behind that", c, slices.Concat(full, []impl.Event{keyOf(1, 1, ringKey(2)), loseOf(0), loseOf(0), loseOf(0), tickOf(1)})...)
		last := s.Flights[len(s.Flights)-1]
		if got, ok := wantOpened(t, ringOf(1, 1), last.Data); !ok || got.Counter != 3 || last.To != 0 {
			t.Errorf("behind what was lost there flies %v", last)
		}
	}
}
