package tests

import (
	"fmt"
	"slices"
	"testing"

	"loop.example/g00725/impl"
)

// heard has the node 0 of a world hear this letter of the node 2, behind all that was done: its number is so high
// that it is news.
func heard(t *testing.T, flights int, list ...impl.Message) []impl.Event {
	t.Helper()
	return []impl.Event{pushOf(0, letterBy(t, 1, 2, 1000, list...)), comeOf(int64(flights))}
}

// checkDrop has the node hear data behind these events: nothing but its Drops is turned, and the flight is gone.
func checkDrop(t *testing.T, name string, c impl.Config, node int64, data []byte, events ...impl.Event) {
	t.Helper()
	before := impl.RunWorld(c, events).State
	got := checkRun(t, name, c, slices.Concat(events, []impl.Event{pushOf(node, data), comeOf(int64(len(before.Flights)))})...)
	before.Nodes[node].Drops++
	before.Codes = append(before.Codes, impl.OK, impl.OK)
	if stateText(got) != stateText(before) {
		t.Errorf("%s: %v, want %v", name, got, before)
	}
}

// checkHeard is the same of a letter that is heard: it answers the state behind it, and that ahead of it.
func checkHeard(t *testing.T, name string, c impl.Config, events []impl.Event, list ...impl.Message) (before impl.State, after impl.State) {
	t.Helper()
	before = impl.RunWorld(c, events).State
	after = checkRun(t, name, c, slices.Concat(events, heard(t, len(before.Flights), list...))...)
	if after.Nodes[0].Drops != before.Nodes[0].Drops || after.Nodes[0].Windows[2].Top != 1000 {
		t.Errorf("%s: the letter is dropped", name)
	}
	return before, after
}

func TestWhatDoesNotOpenIsDropped(t *testing.T) {
	c, right := configFor(3), letterBy(t, 1, 2, 5, pingOf(1, 0))
	for i := range right {
		checkDrop(t, fmt.Sprint("a letter that is turned at ", i), c, 0, spoilt(right, i, 1<<(i%8)))
	}
	for end := range right {
		checkDrop(t, fmt.Sprint("a letter that is cut at ", end), c, 0, right[:end])
	}
	for _, data := range [][]byte{
		nil, {0}, {1}, mixedBytes(27, 3), mixedBytes(327, 4), append(slices.Clone(right), 0), append([]byte{1}, right...),
		letterBy(t, 2, 2, 5, pingOf(1, 0)), wantLetter(t, ringKey(2).Bytes, impl.Letter{Key: 1, Sender: 2, Counter: 5, Text: wantAllPacked(nil)}),
		wantLetter(t, ringKey(1).Bytes, impl.Letter{Key: 3, Sender: 2, Counter: 5, Text: wantAllPacked(nil)}),
	} {
		checkDrop(t, fmt.Sprintf("what is no letter: %x", data), c, 0, data)
		// Beside what is waited for, and what flies.
		checkDrop(t, fmt.Sprintf("what is no letter, later: %x", data), c, 0, data, tickOf(0), tickOf(1), tickOf(2))
	}
}

func TestSenderThatIsNoOtherNodeIsDropped(t *testing.T) {
	for count := int64(2); count <= 4; count++ {
		for node := range count {
			for sender := range int64(16) {
				data := letterBy(t, 1, sender, 7, pingOf(1, node), claimOf(node, 5, 2, 7))
				if sender == node || sender >= count {
					checkDrop(t, fmt.Sprintf("a letter of %d to %d of %d", sender, node, count), configFor(count), node, data)
					continue
				}
				s := checkRun(t, "a letter of another one", configFor(count), pushOf(node, data), comeOf(0))
				if n := s.Nodes[node]; n.Drops != 0 || n.Windows[sender].Top != 7 || n.Own.Inc != 6 || len(s.Flights) != 1 || s.Flights[0].To != sender {
					t.Errorf("a letter of %d to %d of %d turns %v", sender, node, count, s)
				}
			}
		}
	}
	// What a node sent itself comes to it.
	s := impl.RunWorld(configFor(2), []impl.Event{tickOf(0)}).State
	checkDrop(t, "its own letter", configFor(2), 0, s.Flights[0].Data)
}

func TestCounterThatWasHeardIsDropped(t *testing.T) {
	c, sender := configFor(3), int64(2)
	letter := func(counter int64) []byte { return letterBy(t, 1, sender, counter, claimOf(1, counter, 0, 9)) }
	first := []impl.Event{pushOf(0, letter(20)), comeOf(0), pushOf(0, letter(7)), comeOf(0)}
	for _, row := range []struct {
		counter int64
		isNews  bool
	}{
		{20, false}, {7, false}, {4, false}, {3, false}, {0, false}, {5, true}, {6, true}, {8, true}, {19, true}, {21, true}, {1000, true}, {1000000, true},
	} {
		if !row.isNews {
			checkDrop(t, fmt.Sprint("the counter ", row.counter), c, 0, letter(row.counter), first...)
			continue
		}
		s := checkRun(t, fmt.Sprint("the counter ", row.counter), c, slices.Concat(first, []impl.Event{pushOf(0, letter(row.counter)), comeOf(0)})...)
		n := s.Nodes[0]
		if n.Drops != 0 || !slices.Contains(n.Windows[2].Seen, row.counter) || n.View[1].Inc != max(20, row.counter) {
			t.Errorf("the counter %d is no news: %v", row.counter, n)
		}
		// It is heard once; and of another one, or by another one, it is news all the same.
		checkDrop(t, "what was heard", c, 0, letter(row.counter), slices.Concat(first, []impl.Event{pushOf(0, letter(row.counter)), comeOf(0)})...)
		s = checkRun(t, "the same counter of another one", c, slices.Concat(first, []impl.Event{pushOf(0, letterBy(t, 1, 1, 20)), comeOf(0), pushOf(1, letter(20)), comeOf(0)})...)
		if s.Nodes[0].Drops+s.Nodes[1].Drops != 0 || s.Nodes[0].Windows[1].Top != 20 || s.Nodes[1].Windows[2].Top != 20 || s.Nodes[0].Windows[2].Top != 20 {
			t.Errorf("the counter of one is taken for that of another one: %v", s)
		}
	}
	// The greatest one that there is.
	s := checkRun(t, "the greatest counter", c, pushOf(0, letterBy(t, 1, 2, 1000000000, pingOf(3, 0))), comeOf(0))
	checkEqual(t, "the window behind the greatest counter", s.Nodes[0].Windows[2], windowOf(1000000000, 1000000000))
	// What flies twice is heard once.
	s = checkRun(t, "a copy", c, tickOf(0), copyOf(0), comeOf(0), comeOf(0))
	checkEqual(t, "the drops of a copy", s.Nodes[1].Drops, 1)
}

func TestTextThatIsNoMessagesIsDropped(t *testing.T) {
	c := configFor(3)
	sealed := func(text []byte) []byte {
		return wantLetter(t, ringKey(1).Bytes, impl.Letter{Key: 1, Sender: 2, Counter: 5, Text: text})
	}
	for _, text := range [][]byte{
		nil, {1}, {0, 0}, {13}, {1, 0}, {2, 5, 2, 0, 0, 1, 44}, mixedBytes(300, 5), mixedBytes(40, 9),
		wantAllPacked([]impl.Message{pingOf(1, 0), pingOf(1, 4)}), wantAllPacked([]impl.Message{pingOf(1, 0), claimOf(1, 1000001, 0, 0)}),
		wantAllPacked([]impl.Message{pingOf(1, 0), turnOf(4, impl.Key{Id: 1})}), append(wantAllPacked([]impl.Message{pingOf(1, 0)}), 0),
		wantAllPacked(slices.Repeat([]impl.Message{ackOf(1)}, 13)),
	} {
		checkDrop(t, fmt.Sprintf("the Text %x", text), c, 0, sealed(text))
		// Its counter was not taken: what is told with it by messages is news.
		s := checkRun(t, "the same counter", c, pushOf(0, sealed(text)), comeOf(0), pushOf(0, sealed(wantAllPacked(nil))), comeOf(0))
		checkEqual(t, "drops and window", fmt.Sprint(s.Nodes[0].Drops, s.Nodes[0].Windows[2]), fmt.Sprint(1, windowOf(5, 5)))
	}
	// No messages are messages; so are as many as there may be.
	for _, list := range [][]impl.Message{nil, slices.Repeat([]impl.Message{ackOf(1)}, 12), slices.Repeat([]impl.Message{pingOf(1, 1)}, 12)} {
		before, after := checkHeard(t, "messages that turn nothing", c, nil, list...)
		before.Nodes[0].Windows[2] = windowOf(1000, 1000)
		before.Codes = append(before.Codes, 0, 0)
		checkEqual(t, "behind messages that turn nothing", stateText(after), stateText(before))
	}
}

func TestNodeThatIsStoppedHearsNothing(t *testing.T) {
	c := configFor(3)
	for _, data := range [][]byte{nil, {1, 2}, letterBy(t, 1, 2, 5, pingOf(1, 0), claimOf(0, 9, 2, 7), turnOf(1, ringKey(2)))} {
		s := checkRun(t, "a node that is stopped", c, tickOf(0), stopOf(0), pushOf(0, data), comeOf(1))
		want := impl.RunWorld(c, []impl.Event{tickOf(0), stopOf(0)}).State
		want.Codes = append(want.Codes, 0, 0)
		checkEqual(t, "a node that is stopped", stateText(s), stateText(want))
	}
	// Others hear, and what it sent ahead of that comes.
	s := checkRun(t, "what was sent ahead of a stop", c, tickOf(0), stopOf(0), comeOf(0), comeOf(0))
	if len(s.Flights) != 0 || s.Nodes[1].Counter != 1 || s.Nodes[1].Windows[0].Top != 0 || len(s.Nodes[0].Waits) != 1 || s.Nodes[0].Windows[1].Top != -1 {
		t.Errorf("behind the stop of a node there is %v", s)
	}
}

func TestPingThatIsHeard(t *testing.T) {
	for _, seq := range []int64{0, 1, 300, 1000000} {
		c := configFor(3)
		_, s := checkHeard(t, "a ping", c, nil, pingOf(seq, 0))
		checkSent(t, "a ping for this node", s, viewFor(3), sent{2, 1, 0, 0, ackOf(seq)})
		checkEqual(t, "Seq and waits", fmt.Sprint(s.Nodes[0].Seq, s.Nodes[0].Waits), fmt.Sprint(0, []impl.Wait{}))
		for _, other := range []int64{1, 2, 3} {
			_, s = checkHeard(t, "a ping for another node", c, nil, pingOf(seq, other))
			checkSent(t, "a ping for another node", s, viewFor(3))
		}
	}
	// One after the other, each with the next number.
	_, s := checkHeard(t, "pings", configFor(3), nil, pingOf(9, 0), pingOf(9, 1), pingOf(8, 0), pingOf(9, 0))
	checkSent(t, "pings", s, viewFor(3), sent{2, 1, 0, 0, ackOf(9)}, sent{2, 1, 0, 1, ackOf(8)}, sent{2, 1, 0, 2, ackOf(9)})
}

func TestAskThatIsHeard(t *testing.T) {
	c := configFor(3)
	_, s := checkHeard(t, "an ask for this node", c, nil, askOf(30, 0))
	checkSent(t, "an ask for this node", s, viewFor(3), sent{2, 1, 0, 0, ackOf(30)})
	checkEqual(t, "Seq and waits", fmt.Sprint(s.Nodes[0].Seq, s.Nodes[0].Waits), fmt.Sprint(0, []impl.Wait{}))
	// For another one, even for whoever asks: with a Seq of its own.
	for _, other := range []int64{1, 2} {
		_, s = checkHeard(t, "an ask for another node", c, nil, askOf(30, other))
		checkSent(t, "an ask for another node", s, viewFor(3), sent{other, 1, 0, 0, pingOf(1, other)})
		checkEqual(t, "Seq, Last and waits", fmt.Sprint(s.Nodes[0].Seq, s.Nodes[0].Last, s.Nodes[0].Waits), fmt.Sprint(1, -1, []impl.Wait{helpWait(1, other, 3, 2, 30)}))
	}
	_, s = checkHeard(t, "an ask for a node that is none", c, nil, askOf(30, 3))
	checkSent(t, "an ask for a node that is none", s, viewFor(3))
	checkEqual(t, "Seq and waits", fmt.Sprint(s.Nodes[0].Seq, s.Nodes[0].Waits), fmt.Sprint(0, []impl.Wait{}))
	// Beside what it asks itself, and more than one of the same.
	_, s = checkHeard(t, "asks", c, []impl.Event{tickOf(0)}, askOf(1, 1), askOf(1, 1), askOf(1000000, 1))
	checkSent(t, "asks", s, viewFor(3), sent{1, 1, 0, 0, pingOf(1, 1)}, sent{1, 1, 0, 1, pingOf(2, 1)}, sent{1, 1, 0, 2, pingOf(3, 1)}, sent{1, 1, 0, 3, pingOf(4, 1)})
	checkEqual(t, "waits", s.Nodes[0].Waits, []impl.Wait{waitOf(1, 1, 1, 2), helpWait(2, 1, 3, 2, 1), helpWait(3, 1, 3, 2, 1), helpWait(4, 1, 3, 2, 1000000)})
	checkEqual(t, "Last", s.Nodes[0].Last, 1)
}

func TestAckThatIsHeard(t *testing.T) {
	c, ticks := configFor(4), []impl.Event{tickOf(0), tickOf(0), tickOf(0)}
	asked := pushOf(0, letterBy(t, 1, 3, 5, askOf(70, 1), askOf(71, 2)))
	ping, ask := []impl.Event{tickOf(0)}, ticks
	help := []impl.Event{asked, comeOf(0)}
	both := []impl.Event{tickOf(0), asked, comeOf(1)}
	suspect := []impl.Event{pushOf(0, letterBy(t, 1, 3, 5, claimOf(1, 0, 2, 7), claimOf(1, 1, 1, 7))), comeOf(0)}
	for _, row := range []struct {
		name   string
		events []impl.Event
		acks   []impl.Message
		waits  []impl.Wait
		told   []sent
	}{
		{"a ping", ping, []impl.Message{ackOf(1)}, nil, nil},
		{"a ping that was not asked so", ping, []impl.Message{ackOf(0), ackOf(2), ackOf(1000000)}, []impl.Wait{waitOf(1, 1, 1, 2)}, nil},
		{"an ask", ask, []impl.Message{ackOf(1)}, nil, nil},
		{"an ask that was not asked so", ask, []impl.Message{ackOf(2)}, []impl.Wait{waitOf(2, 1, 1, 2)}, nil},
		{"a help: whoever asked is told with the Seq that it had", help, []impl.Message{ackOf(1)}, []impl.Wait{helpWait(2, 2, 3, 3, 71)}, []sent{{3, 1, 0, 2, ackOf(70)}}},
		{"another help", help, []impl.Message{ackOf(2)}, []impl.Wait{helpWait(1, 1, 3, 3, 70)}, []sent{{3, 1, 0, 2, ackOf(71)}}},
		{"both helps", help, []impl.Message{ackOf(2), ackOf(1)}, nil, []sent{{3, 1, 0, 2, ackOf(71)}, {3, 1, 0, 3, ackOf(70)}}},
		{"a help by the Seq of whoever asked", help, []impl.Message{ackOf(70), ackOf(71)}, []impl.Wait{helpWait(1, 1, 3, 3, 70), helpWait(2, 2, 3, 3, 71)}, nil},
		{"a help twice", help, []impl.Message{ackOf(1), ackOf(1)}, []impl.Wait{helpWait(2, 2, 3, 3, 71)}, []sent{{3, 1, 0, 2, ackOf(70)}}},
		{"its own ping beside helps", both, []impl.Message{ackOf(1)}, []impl.Wait{helpWait(2, 1, 3, 3, 70), helpWait(3, 2, 3, 3, 71)}, nil},
		{"a help beside its own ping", both, []impl.Message{ackOf(3)}, []impl.Wait{waitOf(1, 1, 1, 2), helpWait(2, 1, 3, 3, 70)}, []sent{{3, 1, 0, 3, ackOf(71)}}},
		{"a suspicion has no answer", suspect, []impl.Message{ackOf(0), ackOf(1)}, []impl.Wait{suspectWait(1, 1, 4)}, nil},
		{"nobody waits", nil, []impl.Message{ackOf(0), ackOf(1)}, nil, nil},
	} {
		before, after := checkHeard(t, row.name, c, row.events, row.acks...)
		checkEqual(t, "waits: "+row.name, after.Nodes[0].Waits, row.waits)
		after.Flights = after.Flights[len(before.Flights):]
		checkSent(t, row.name, after, before.Nodes[0].View, row.told...)
		checkEqual(t, "Seq: "+row.name, after.Nodes[0].Seq, before.Nodes[0].Seq)
	}
}

// TestWhoHelpsTellsWhoeverAsked goes all the way round: asked, asked for another one, answered, answered for that one.
func TestWhoHelpsTellsWhoeverAsked(t *testing.T) {
	c := configFor(3)
	// The node 2 helps others ahead of that, so that its Seq is not that of the node 0.
	ahead := []impl.Event{pushOf(2, letterBy(t, 1, 1, 5, askOf(5, 0), askOf(6, 0))), comeOf(0), loseOf(0), loseOf(0)}
	ping := []impl.Event{tickOf(0), loseOf(0), tickOf(0), tickOf(0)}
	s := checkRun(t, "an ask", c, slices.Concat(ahead, ping)...)
	checkSent(t, "an ask", s, viewFor(3), sent{2, 1, 0, 1, askOf(1, 1)})
	s = checkRun(t, "who helps", c, slices.Concat(ahead, ping, []impl.Event{comeOf(0)})...)
	checkSent(t, "who helps", s, viewFor(3), sent{1, 1, 2, 2, pingOf(3, 1)})
	checkEqual(t, "who helps waits", s.Nodes[2].Waits[2], helpWait(3, 1, 3, 0, 1))
	s = checkRun(t, "who is asked for", c, slices.Concat(ahead, ping, []impl.Event{comeOf(0), comeOf(0)})...)
	checkSent(t, "who is asked for", s, viewFor(3), sent{2, 1, 1, 0, ackOf(3)})
	s = checkRun(t, "the answer", c, slices.Concat(ahead, ping, []impl.Event{comeOf(0), comeOf(0), comeOf(0)})...)
	checkSent(t, "the answer", s, viewFor(3), sent{0, 1, 2, 3, ackOf(1)})
	checkEqual(t, "who waits for it", s.Nodes[0].Waits, []impl.Wait{waitOf(2, 1, 1, 2)})
	s = checkRun(t, "whoever asked", c, slices.Concat(ahead, ping, []impl.Event{comeOf(0), comeOf(0), comeOf(0), comeOf(0), tickOf(0)})...)
	checkSent(t, "whoever asked asks the next one", s, viewFor(3), sent{2, 1, 0, 2, pingOf(2, 2)})
	checkEqual(t, "all waits", s.Nodes[0].Waits, []impl.Wait{waitOf(1, 2, 2, 2)})
	// Whoever helps for too long is late: its wait is gone, and the answer is for nobody.
	late := slices.Concat(ahead, ping, []impl.Event{comeOf(0), tickOf(2), tickOf(2), tickOf(2), loseOf(1), loseOf(1), comeOf(0), comeOf(0)})
	s = checkRun(t, "who is late", c, late...)
	checkSent(t, "who is late", s, viewFor(3))
	checkEqual(t, "who is late waits", s.Nodes[2].Waits, []impl.Wait{waitOf(2, 4, 0, 2)})
}

func TestClaimOfThisNodeThatIsHeard(t *testing.T) {
	c := configFor(3)
	for _, row := range []struct {
		name   string
		claims []impl.Message
		inc    int64
	}{
		{"it is suspected", []impl.Message{claimOf(0, 1, 1, 65536)}, 2}, {"it is dead", []impl.Message{claimOf(0, 1, 2, 65536)}, 2}, {"it is dead, and has another Meta", []impl.Message{claimOf(0, 1, 2, 5)}, 2},
		{"it was later than it is", []impl.Message{claimOf(0, 2, 0, 65536)}, 3}, {"much later", []impl.Message{claimOf(0, 999998, 1, 5)}, 999999}, {"as late as can be refuted", []impl.Message{claimOf(0, 999999, 2, 5)}, 1000000},
		{"it cannot be refuted", []impl.Message{claimOf(0, 1000000, 2, 5)}, 1}, {"nor this", []impl.Message{claimOf(0, 1000000, 0, 5)}, 1}, {"nor that", []impl.Message{claimOf(0, 1000000, 1, 5)}, 1},
		{"it is alive", []impl.Message{claimOf(0, 1, 0, 65536)}, 1}, {"it is alive, and has another Meta", []impl.Message{claimOf(0, 1, 0, 5)}, 1},
		{"it was dead", []impl.Message{claimOf(0, 0, 2, 65536)}, 1}, {"it was suspected", []impl.Message{claimOf(0, 0, 1, 65536)}, 1},
		{"one after the other", []impl.Message{claimOf(0, 1, 1, 5), claimOf(0, 1, 2, 5), claimOf(0, 2, 1, 5), claimOf(0, 2, 0, 5)}, 3},
		{"and with a later one", []impl.Message{claimOf(0, 7, 0, 5), claimOf(0, 1, 2, 5), claimOf(0, 8, 0, 5)}, 8},
		{"one that cannot be refuted between others", []impl.Message{claimOf(0, 3, 1, 5), claimOf(0, 1000000, 1, 5), claimOf(0, 4, 1, 5)}, 5},
	} {
		_, s := checkHeard(t, row.name, c, nil, row.claims...)
		n, own := s.Nodes[0], aClaim(0, row.inc, 0, 65536)
		checkEqual(t, row.name, fmt.Sprint(n.Own, n.View, n.Waits), fmt.Sprint(own, viewWith(viewFor(3), own), []impl.Wait{}))
		// Nothing is sent by that; what is sent next tells it.
		checkSent(t, row.name, s, viewFor(3))
		_, s = checkHeard(t, row.name, c, nil, append(row.claims, pingOf(4, 0))...)
		checkSent(t, row.name, s, viewWith(viewFor(3), own), sent{2, 1, 0, 0, ackOf(4)})
	}
}

func TestClaimOfAnotherNodeThatIsHeard(t *testing.T) {
	c := configFor(3)
	for _, row := range []struct {
		name  string
		claim impl.Message
		view  []impl.Claim
		waits []impl.Wait
	}{
		{"it suspects", claimOf(1, 1, 1, 7), []impl.Claim{aClaim(1, 1, 1, 7)}, []impl.Wait{suspectWait(1, 1, 4)}},
		{"it suspects a later one", claimOf(1, 1000000, 1, 7), []impl.Claim{aClaim(1, 1000000, 1, 7)}, []impl.Wait{suspectWait(1, 1000000, 4)}},
		{"it suspects whoever tells it", claimOf(2, 2, 1, 7), []impl.Claim{aClaim(2, 2, 1, 7)}, []impl.Wait{suspectWait(2, 2, 4)}},
		{"it suspects an elder one", claimOf(1, 0, 1, 7), nil, nil}, {"it buries", claimOf(1, 1, 2, 7), []impl.Claim{aClaim(1, 1, 2, 7)}, nil}, {"it buries an elder one", claimOf(1, 0, 2, 7), nil, nil},
		{"it is later", claimOf(1, 2, 0, 7), []impl.Claim{aClaim(1, 2, 0, 7)}, nil}, {"it is the same", claimOf(1, 1, 0, 65537), nil, nil}, {"it has another Meta", claimOf(1, 1, 0, 7), nil, nil},
		{"of a node that is none", claimOf(3, 5, 1, 7), nil, nil}, {"of a node that is none and dead", claimOf(3, 5, 2, 7), nil, nil}, {"of a node that is none and alive", claimOf(3, 1, 0, 65539), nil, nil},
	} {
		_, s := checkHeard(t, row.name, c, nil, row.claim)
		n := s.Nodes[0]
		checkEqual(t, row.name, fmt.Sprint(n.Own, n.View, n.Waits, n.Seq), fmt.Sprint(aClaim(0, 1, 0, 65536), viewWith(viewFor(3), row.view...), row.waits, 0))
		// Told once more it changes nothing.
		_, again := checkHeard(t, row.name, c, nil, row.claim, row.claim, row.claim)
		checkEqual(t, row.name+", once more", again.Nodes[0], n)
		// In a world of four the node 3 is one.
		checkHeard(t, row.name, configFor(4), nil, row.claim)
	}
	_, s := checkHeard(t, "of a node that is the last one", configFor(4), nil, claimOf(3, 5, 1, 7))
	checkEqual(t, "of a node that is the last one", fmt.Sprint(s.Nodes[0].View[3], s.Nodes[0].Waits), fmt.Sprint(aClaim(3, 5, 1, 7), []impl.Wait{suspectWait(3, 5, 4)}))
	// Message by message: two suspicions of one node are two waits; what is suspected and dead in one letter is waited for.
	_, s = checkHeard(t, "one after the other", c, nil, claimOf(1, 1, 1, 7), claimOf(1, 3, 1, 7), claimOf(1, 2, 1, 7), claimOf(1, 3, 2, 8), claimOf(2, 9, 1, 9))
	checkEqual(t, "one after the other", fmt.Sprint(s.Nodes[0].View[1:], s.Nodes[0].Waits), fmt.Sprint([]impl.Claim{aClaim(1, 3, 2, 8), aClaim(2, 9, 1, 9)}, []impl.Wait{suspectWait(1, 1, 4), suspectWait(1, 3, 4), suspectWait(2, 9, 4)}))
}

func TestKeyThatIsHeard(t *testing.T) {
	c := configFor(3)
	install := func(ids ...int64) []impl.Message {
		var list []impl.Message
		for _, id := range ids {
			list = append(list, turnOf(1, ringKey(id)))
		}
		return list
	}
	for _, row := range []struct {
		name string
		list []impl.Message
		ring impl.Ring
	}{
		{"a key is installed", install(5), ringOf(1, 1, 5)}, {"keys are installed", install(255, 2), ringOf(1, 1, 2, 255)}, {"there is no room for one", install(2, 3, 4), ringOf(1, 1, 2, 3)},
		{"a key is there already", []impl.Message{turnOf(1, impl.Key{Id: 1, Bytes: ringKey(9).Bytes})}, ringOf(1, 1)},
		{"a key is used", append(install(5), turnOf(2, impl.Key{Id: 5})), ringOf(5, 1, 5)}, {"a key is used that is not there", append(install(5), turnOf(2, impl.Key{Id: 6})), ringOf(1, 1, 5)},
		{"a key is removed", append(install(5), turnOf(3, impl.Key{Id: 5})), ringOf(1, 1)}, {"the primary is not removed", append(install(5), turnOf(3, impl.Key{Id: 1})), ringOf(1, 1, 5)},
		{"the elder one is removed", append(install(5), turnOf(2, impl.Key{Id: 5}), turnOf(3, impl.Key{Id: 1})), ringOf(5, 5)},
		{"what is not there is removed", []impl.Message{turnOf(3, impl.Key{Id: 6})}, ringOf(1, 1)},
		{"a key with a code between others", []impl.Message{turnOf(2, impl.Key{Id: 6}), turnOf(1, ringKey(6)), turnOf(2, impl.Key{Id: 7}), turnOf(2, impl.Key{Id: 6})}, ringOf(6, 1, 6)},
	} {
		_, s := checkHeard(t, row.name, c, nil, row.list...)
		checkEqual(t, row.name, s.Nodes[0].Ring, row.ring)
		checkSent(t, row.name, s, viewFor(3))
		checkEqual(t, row.name+": others", fmt.Sprint(s.Nodes[1].Ring, s.Nodes[2].Ring), fmt.Sprint(ringOf(1, 1), ringOf(1, 1)))
		// What is answered behind it goes by the ring as it is then.
		_, s = checkHeard(t, row.name, c, nil, append(row.list, pingOf(4, 0))...)
		checkSent(t, row.name, s, viewFor(3), sent{2, row.ring.Primary, 0, 0, ackOf(4)})
	}
	// In one letter: what is ahead of it goes by the elder one.
	_, s := checkHeard(t, "between two pings", c, nil, pingOf(4, 0), turnOf(1, ringKey(5)), turnOf(2, impl.Key{Id: 5}), pingOf(5, 0))
	checkSent(t, "between two pings", s, viewFor(3), sent{2, 1, 0, 0, ackOf(4)}, sent{2, 5, 0, 1, ackOf(5)})
	// What is sealed by a key is heard where that is in the ring, whatever the primary is, and not where it is gone.
	letter := letterBy(t, 5, 1, 30, pingOf(8, 0))
	checkDrop(t, "a key that is not there yet", c, 0, letter)
	s = checkRun(t, "a key that is there", c, slices.Concat(heard(t, 0, install(5)...), []impl.Event{pushOf(0, letter), comeOf(0)})...)
	checkSent(t, "a key that is there", s, viewFor(3), sent{1, 1, 0, 0, ackOf(8)})
	checkDrop(t, "a key that is gone", c, 0, letter, heard(t, 0, append(install(5), turnOf(3, impl.Key{Id: 5}))...)...)
}

// TestFlightsComeInAnyOrder takes each of several flights: the others stay in their order.
func TestFlightsComeInAnyOrder(t *testing.T) {
	c := configFor(3)
	var pushed []impl.Event
	for i := range int64(6) {
		pushed = append(pushed, pushOf(i%3, []byte{byte(i)}))
	}
	for at := range int64(6) {
		for _, taken := range []impl.Event{comeOf(at), loseOf(at)} {
			s := checkRun(t, "a flight is gone", c, slices.Concat(pushed, []impl.Event{taken})...)
			var left []byte
			for _, f := range s.Flights {
				left = append(left, f.Data...)
			}
			want := slices.DeleteFunc([]byte{0, 1, 2, 3, 4, 5}, func(b byte) bool { return int64(b) == at })
			checkEqual(t, fmt.Sprint("without the flight ", at), left, want)
			drops := []int64{s.Nodes[0].Drops, s.Nodes[1].Drops, s.Nodes[2].Drops}
			heardOf := []int64{0, 0, 0}
			if taken.Kind == impl.EvCome {
				heardOf[at%3] = 1
			}
			checkEqual(t, fmt.Sprint("who heard the flight ", at), drops, heardOf)
		}
	}
}
