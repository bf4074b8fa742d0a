package tests

import (
	"fmt"
	"slices"
	"testing"

	"loop.example/g00725/impl"
)

// checkNothing has one event behind others: it has this code, and turns nothing.
func checkNothing(t *testing.T, name string, c impl.Config, code int64, e impl.Event, events ...impl.Event) {
	t.Helper()
	want := impl.RunWorld(c, events).State
	got := checkRun(t, name, c, slices.Concat(events, []impl.Event{e})...)
	if want.Codes = append(want.Codes, code); stateText(got) != stateText(want) {
		t.Errorf("%s: %v turns %v into %v", name, e, want, got)
	}
}

// checkOnly has one event behind others: it has no code, and turns the state as it is told.
func checkOnly(t *testing.T, name string, c impl.Config, turn func(s *impl.State), e impl.Event, events ...impl.Event) {
	t.Helper()
	want := impl.RunWorld(c, events).State
	turn(&want)
	want.Codes = append(want.Codes, impl.OK)
	if got := checkRun(t, name, c, slices.Concat(events, []impl.Event{e})...); stateText(got) != stateText(want) {
		t.Errorf("%s: %v tells %v, want %v", name, e, got, want)
	}
}

// threeFlights are to the nodes 1, 2 and 0; the last one has no bytes.
func threeFlights() []impl.Event {
	return []impl.Event{tickOf(0), tickOf(1), loseOf(1), pushOf(2, []byte{7, 8, 9}), pushOf(0, nil)}
}

func TestWhatIsNotThere(t *testing.T) {
	for count := int64(2); count <= 4; count++ {
		c := configFor(count)
		for node := count; node < 4; node++ {
			for _, e := range []impl.Event{tickOf(node), stopOf(node), pushOf(node, nil), pushOf(node, []byte{1}), keyOf(node, 1, ringKey(2)), keyOf(node, 2, impl.Key{Id: 9}), keyOf(node, 1, ringKey(1))} {
				checkNothing(t, "a node that is not there", c, impl.ErrNone, e)
				checkNothing(t, "a node that is not there", c, impl.ErrNone, e, stopOf(0), stopOf(1), tickOf(0))
				checkNothing(t, "a node that is not there", c, impl.ErrNone, e, slices.Repeat([]impl.Event{pushOf(0, nil)}, 40)...)
			}
		}
		for _, flights := range []int64{0, 1, 5, 39} {
			pushed := slices.Repeat([]impl.Event{pushOf(1, []byte{7})}, int(flights))
			for _, at := range []int64{flights, flights + 1, 39} {
				if at > 39 {
					continue
				}
				for _, e := range []impl.Event{comeOf(at), loseOf(at), copyOf(at), spoilOf(at, 0, 1), spoilOf(at, 9, 1)} {
					checkNothing(t, "a flight that is not there", c, impl.ErrNone, e, pushed...)
				}
			}
			// The last one is there.
			if flights > 0 {
				for _, e := range []impl.Event{comeOf(flights - 1), loseOf(flights - 1), copyOf(flights - 1), spoilOf(flights-1, 0, 1)} {
					s := checkRun(t, "the last flight", c, slices.Concat(pushed, []impl.Event{e})...)
					checkEqual(t, "the code of the last flight", s.Codes[flights], 0)
				}
			}
		}
	}
}

func TestNodeThatIsStopped(t *testing.T) {
	c := configFor(3)
	for node := range int64(3) {
		stopped := []impl.Event{tickOf(0), tickOf(1), tickOf(2), stopOf(node)}
		// ErrState ahead of the code of TurnRing, behind that of EventFault.
		for _, e := range []impl.Event{tickOf(node), stopOf(node), keyOf(node, 1, ringKey(2)), keyOf(node, 1, ringKey(1)), keyOf(node, 2, impl.Key{Id: 9}), keyOf(node, 3, impl.Key{Id: 1})} {
			checkNothing(t, "a node that is stopped", c, impl.ErrState, e, stopped...)
		}
		checkNothing(t, "a wrong key of a node that is stopped", c, impl.ErrMany, keyOf(node, 2, ringKey(2)), stopped...)
		checkNothing(t, "a wrong tick of a node that is stopped", c, impl.ErrForm, impl.Event{Kind: impl.EvTick, Node: node, At: 1}, stopped...)
		// What is pushed flies to it, as to any other one.
		checkOnly(t, "what is pushed to a node that is stopped", c, func(s *impl.State) {
			s.Flights = append(s.Flights, impl.Flight{To: node, Data: []byte{1, 2}})
		}, pushOf(node, []byte{1, 2}), stopped...)
		// For good: nothing starts it again. The others go on, and tell it all.
		s := checkRun(t, "later", c, slices.Concat(stopped, []impl.Event{comeOf(0), comeOf(0), comeOf(0), tickOf(0), tickOf(1), tickOf(2), keyOf((node+1)%3, 1, ringKey(2))})...)
		if !s.Nodes[node].Stopped || s.Nodes[(node+1)%3].Stopped || s.Nodes[(node+2)%3].Stopped || len(impl.LettersIn(s, node).List) == 0 {
			t.Errorf("later the world is %v", s)
		}
	}
	// It can be stopped once; a stop turns nothing else.
	checkOnly(t, "a stop", c, func(s *impl.State) { s.Nodes[1].Stopped = true }, stopOf(1), threeFlights()...)
	s := checkRun(t, "all are stopped", c, stopOf(0), stopOf(1), stopOf(2), tickOf(0), tickOf(1), tickOf(2), pushOf(0, nil), comeOf(0))
	checkEqual(t, "all are stopped", s.Codes, []int64{0, 0, 0, impl.ErrState, impl.ErrState, impl.ErrState, 0, 0})
}

func TestWhatIsLost(t *testing.T) {
	c := configFor(3)
	for at := range int64(3) {
		checkOnly(t, "what is lost", c, func(s *impl.State) { s.Flights = slices.Delete(s.Flights, int(at), int(at)+1) }, loseOf(at), threeFlights()...)
	}
}

func TestWhatIsCopied(t *testing.T) {
	c := configFor(3)
	for at := range int64(3) {
		checkOnly(t, "what is copied", c, func(s *impl.State) { s.Flights = append(s.Flights, s.Flights[at]) }, copyOf(at), threeFlights()...)
	}
	for _, count := range []int{39, 40} {
		pushed := append(slices.Repeat([]impl.Event{pushOf(1, []byte{7})}, count-1), pushOf(2, []byte{8, 9}))
		for _, at := range []int64{0, 17, int64(count) - 1} {
			if count == 40 {
				checkNothing(t, "what is copied where there is no room", c, impl.ErrFull, copyOf(at), pushed...)
				continue
			}
			checkOnly(t, "what is copied into the last room", c, func(s *impl.State) { s.Flights = append(s.Flights, s.Flights[at]) }, copyOf(at), pushed...)
		}
	}
	// What is turned of one is not turned of the other one, whichever it is; and both come.
	for _, turned := range []int64{0, 1} {
		s := checkRun(t, "a copy that is turned", c, pushOf(1, []byte{7, 8}), copyOf(0), spoilOf(turned, 1, 1))
		want := [][]byte{{7, 8}, {7, 8}}
		want[turned][1] = 9
		checkEqual(t, "a copy that is turned", [][]byte{s.Flights[0].Data, s.Flights[1].Data}, want)
	}
	s := checkRun(t, "a copy that comes", c, tickOf(0), copyOf(0), copyOf(1), spoilOf(1, 20, 255), comeOf(1), comeOf(1))
	if s.Nodes[1].Drops != 1 || s.Nodes[1].Windows[0].Top != 0 || len(s.Flights) != 2 || s.Flights[1].To != 0 {
		t.Errorf("behind copies there is %v", s)
	}
}

func TestWhatIsTurned(t *testing.T) {
	c := configFor(3)
	data := mixedBytes(327, 5)
	pushed := []impl.Event{pushOf(0, []byte{1}), pushOf(1, data), pushOf(2, nil)}
	for place := range 256 {
		mask := int64(place%255 + 1)
		checkOnly(t, "a byte is turned", c, func(s *impl.State) { s.Flights[1].Data = spoilt(s.Flights[1].Data, place, byte(mask)) }, spoilOf(1, byte(place), mask), pushed...)
		checkNothing(t, "a byte of a flight without bytes", c, impl.ErrRange, spoilOf(2, byte(place), mask), pushed...)
		if place > 0 {
			checkNothing(t, "a byte behind the end", c, impl.ErrRange, spoilOf(0, byte(place), mask), pushed...)
		}
	}
	checkOnly(t, "the only byte", c, func(s *impl.State) { s.Flights[0].Data = []byte{254} }, spoilOf(0, 0, 255), pushed...)
	for _, size := range []int{1, 2, 100, 254, 255, 256} {
		for _, place := range []int{0, size - 2, size - 1, size, size + 1, 255} {
			if place < 0 || place > 255 {
				continue
			}
			s := checkRun(t, "the last byte", c, pushOf(1, data[:size]), spoilOf(0, byte(place), 3))
			checkEqual(t, fmt.Sprintf("the byte %d of %d", place, size), s.Codes[1], rangeOr(place < size))
		}
	}
	// Twice the same is nothing.
	s := checkRun(t, "turned twice", c, tickOf(0), spoilOf(0, 33, 77), spoilOf(0, 33, 77), comeOf(0))
	if s.Nodes[1].Drops != 0 || len(s.Flights) != 1 {
		t.Errorf("what was turned twice is dropped: %v", s)
	}
	// To whom it flies is no byte of it.
	s = checkRun(t, "each byte of a letter", c, tickOf(0))
	for place := range len(s.Flights[0].Data) {
		got := checkRun(t, "a letter that is turned", c, tickOf(0), spoilOf(0, byte(place), 16), comeOf(0))
		if got.Nodes[1].Drops != 1 || len(got.Flights) != 0 {
			t.Errorf("a letter whose byte %d is turned is heard: %v", place, got)
		}
	}
}

func TestWhatIsPushed(t *testing.T) {
	c := configFor(3)
	for node := range int64(3) {
		for _, data := range [][]byte{nil, {}, {0}, mixedBytes(327, 3)} {
			checkOnly(t, "what is pushed", c, func(s *impl.State) { s.Flights = append(s.Flights, impl.Flight{To: node, Data: data}) }, pushOf(node, data), threeFlights()...)
			for _, count := range []int{39, 40} {
				pushed := slices.Repeat([]impl.Event{pushOf(1, []byte{7})}, count)
				if count == 40 {
					checkNothing(t, "what is pushed where there is no room", c, impl.ErrFull, pushOf(node, data), pushed...)
					continue
				}
				checkOnly(t, "what is pushed into the last room", c, func(s *impl.State) { s.Flights = append(s.Flights, impl.Flight{To: node, Data: data}) }, pushOf(node, data), pushed...)
			}
		}
		checkNothing(t, "too many bytes", c, impl.ErrMany, pushOf(node, mixedBytes(328, 3)), threeFlights()...)
	}
	// A letter that was sent to one is pushed to another one: who it is to is told by the net alone.
	s := impl.RunWorld(c, []impl.Event{tickOf(0)}).State
	s = checkRun(t, "a letter to another one", c, tickOf(0), pushOf(2, s.Flights[0].Data), comeOf(1))
	if s.Nodes[2].Drops != 0 || s.Nodes[2].Windows[0].Top != 0 || len(s.Flights) != 1 {
		t.Errorf("a letter to another one is dropped: %v", s)
	}
}

func TestKeyThatIsTurned(t *testing.T) {
	c := configFor(4)
	others := func(node int64) []int64 {
		return slices.DeleteFunc([]int64{0, 1, 2, 3}, func(n int64) bool { return n == node })
	}
	install2, use2, remove1 := turnOf(1, ringKey(2)), turnOf(2, impl.Key{Id: 2}), turnOf(3, impl.Key{Id: 1})
	for node := range int64(4) {
		s := checkRun(t, "a key is installed", c, keyOf(node, 1, ringKey(2)))
		checkEqual(t, "the ring behind an install", s.Nodes[node].Ring, ringOf(1, 1, 2))
		var told []sent
		for i, to := range others(node) {
			told = append(told, sent{to, 1, node, int64(i), install2})
			checkEqual(t, "the ring of another one", s.Nodes[to].Ring, ringOf(1, 1))
		}
		checkSent(t, "a key is installed", s, viewFor(4), told...)
		// Whoever uses a key tells it by the elder one, and whoever removes one by the new one.
		s = checkRun(t, "a key is used", c, keyOf(node, 1, ringKey(2)), keyOf(node, 2, impl.Key{Id: 2}))
		checkEqual(t, "the ring behind a use", s.Nodes[node].Ring, ringOf(2, 1, 2))
		for i, to := range others(node) {
			told = append(told, sent{to, 1, node, int64(3 + i), use2})
		}
		checkSent(t, "a key is used", s, viewFor(4), told...)
		s = checkRun(t, "a key is removed", c, keyOf(node, 1, ringKey(2)), keyOf(node, 2, impl.Key{Id: 2}), keyOf(node, 3, impl.Key{Id: 1}))
		checkEqual(t, "the ring behind a remove", s.Nodes[node].Ring, ringOf(2, 2))
		for i, to := range others(node) {
			told = append(told, sent{to, 2, node, int64(6 + i), remove1})
		}
		checkSent(t, "a key is removed", s, viewFor(4), told...)
		checkEqual(t, "the Counter", s.Nodes[node].Counter, 9)
		checkEqual(t, "Seq and waits", fmt.Sprint(s.Nodes[node].Seq, s.Nodes[node].Waits), fmt.Sprint(0, []impl.Wait{}))
	}
	for _, row := range []struct {
		op   int64
		k    impl.Key
		code int64
	}{
		{1, ringKey(1), impl.ErrTaken}, {1, impl.Key{Id: 2, Bytes: ringKey(9).Bytes}, impl.ErrTaken}, {1, ringKey(4), impl.OK}, {2, impl.Key{Id: 4}, impl.ErrNone}, {2, impl.Key{Id: 1}, impl.OK},
		{2, impl.Key{Id: 2}, impl.OK}, {3, impl.Key{Id: 1}, impl.ErrState}, {3, impl.Key{Id: 4}, impl.ErrNone}, {3, impl.Key{Id: 2}, impl.OK},
	} {
		for _, name := range []string{"a ring of two", "a ring of three"} {
			events := append(threeFlights(), keyOf(1, 1, ringKey(2)))
			code := row.code
			if name == "a ring of three" {
				events = append(events, keyOf(1, 1, ringKey(3)))
				code = either(row.op == 1 && row.code == impl.OK, impl.ErrFull, code)
			}
			if code != impl.OK {
				checkNothing(t, name, c, code, keyOf(1, row.op, row.k), events...)
				continue
			}
			s := checkRun(t, name, c, append(events, keyOf(1, row.op, row.k))...)
			checkEqual(t, name, s.Codes[len(events)], 0)
		}
	}
}

// TestCodesOfAnEvent has events with more than one code: which one is told.
func TestCodesOfAnEvent(t *testing.T) {
	c := configFor(2)
	full := append(slices.Repeat([]impl.Event{pushOf(1, []byte{7})}, 40), stopOf(1))
	for _, row := range []struct {
		e    impl.Event
		code int64
	}{
		{pushOf(4, nil), impl.ErrRange}, {pushOf(3, mixedBytes(328, 1)), impl.ErrMany}, {pushOf(3, nil), impl.ErrNone}, {pushOf(1, nil), impl.ErrFull}, {pushOf(1, mixedBytes(328, 1)), impl.ErrMany},
		{copyOf(40), impl.ErrRange}, {copyOf(39), impl.ErrFull}, {tickOf(1), impl.ErrState}, {tickOf(2), impl.ErrNone}, {tickOf(4), impl.ErrRange}, {stopOf(3), impl.ErrNone},
		{keyOf(1, 1, ringKey(1)), impl.ErrState}, {keyOf(2, 1, ringKey(1)), impl.ErrNone}, {keyOf(0, 1, ringKey(1)), impl.ErrTaken}, {keyOf(1, 1, sizedKey(1, 15)), impl.ErrMany}, {keyOf(3, 4, ringKey(1)), impl.ErrRange},
		{spoilOf(39, 1, 1), impl.ErrRange}, {spoilOf(40, 0, 1), impl.ErrRange}, {spoilOf(39, 0, 256), impl.ErrRange}, {impl.Event{Kind: impl.EvTurn, At: 39, Mask: 1}, impl.ErrMany},
	} {
		checkNothing(t, "an event beside many flights", c, row.code, row.e, full...)
	}
	for _, row := range []struct {
		e    impl.Event
		code int64
	}{
		{copyOf(0), impl.ErrNone}, {spoilOf(0, 9, 1), impl.ErrNone}, {comeOf(39), impl.ErrNone}, {loseOf(0), impl.ErrNone}, {impl.Event{Kind: impl.EvTurn, Mask: 1}, impl.ErrMany},
	} {
		checkNothing(t, "an event where nothing flies", c, row.code, row.e)
		checkNothing(t, "an event where nothing flies, later", c, row.code, row.e, tickOf(0), comeOf(0), comeOf(0))
	}
}
