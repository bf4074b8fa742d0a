package tests

import (
	"fmt"
	"slices"
	"testing"

	"loop.example/g00725/impl"
)

// part is one list of an argument or of an answer: what it tells, without the lists that it has in itself, and how all
// that it can reach is written over, the room behind its end, too.
type part struct {
	name     string
	text     func() string
	scribble func()
}

func partOf[T any](name string, list []T, text func(x T) string, turn func(x *T)) part {
	whole := list[:cap(list)]
	return part{
		name: name,
		text: func() string {
			out := ""
			for _, x := range whole {
				out += text(x) + " "
			}
			return out
		},
		scribble: func() {
			for i := range whole {
				turn(&whole[i])
			}
		},
	}
}

func partOfBytes(name string, data []byte) part {
	whole := data[:cap(data)]
	return part{name: name, text: func() string { return string(whole) }, scribble: func() { scribble(data) }}
}

func partOfNumbers(name string, list []int64) part {
	return partOf(name, list, func(n int64) string { return fmt.Sprint(n) }, func(n *int64) { *n = -*n - 7 })
}

func partsOfRing(name string, r impl.Ring) []part {
	parts := []part{partOf(name+" keys", r.Keys, func(k impl.Key) string { return fmt.Sprint(k.Id) }, func(k *impl.Key) { *k = impl.Key{Id: -k.Id - 1} })}
	for i, k := range r.Keys {
		parts = append(parts, partOfBytes(fmt.Sprint(name, " bytes of the key ", i), k.Bytes))
	}
	return parts
}

func partsOfNode(name string, n impl.NodeState) []part {
	parts := append(partsOfRing(name, n.Ring),
		partOf(name+" view", n.View, func(c impl.Claim) string { return fmt.Sprint(c) }, func(c *impl.Claim) { *c = aClaim(-c.Node-1, -1, 9, -1) }),
		partOf(name+" waits", n.Waits, func(w impl.Wait) string { return fmt.Sprint(w) }, func(w *impl.Wait) { *w = impl.Wait{Kind: -1, Seq: -w.Seq - 1} }),
		partOf(name+" windows", n.Windows, func(w impl.Window) string { return fmt.Sprint(w.Top) }, func(w *impl.Window) { *w = impl.Window{Top: -w.Top - 9} }),
	)
	for i, w := range n.Windows {
		parts = append(parts, partOfNumbers(fmt.Sprint(name, " window ", i), w.Seen))
	}
	return parts
}

func partsOfState(name string, s impl.State) []part {
	parts := []part{
		partOf(name+" nodes", s.Nodes, func(n impl.NodeState) string { return fmt.Sprint(n.Own, n.Counter, n.Stopped) }, func(n *impl.NodeState) { *n = impl.NodeState{Counter: -n.Counter - 1} }),
		partOf(name+" flights", s.Flights, func(f impl.Flight) string { return fmt.Sprint(f.To) }, func(f *impl.Flight) { *f = impl.Flight{To: -f.To - 1} }),
		partOfNumbers(name+" codes", s.Codes),
	}
	for i, n := range s.Nodes {
		parts = append(parts, partsOfNode(fmt.Sprint(name, " node ", i), n)...)
	}
	for i, f := range s.Flights {
		parts = append(parts, partOfBytes(fmt.Sprint(name, " data of the flight ", i), f.Data))
	}
	return parts
}

// guardedConfig lies in the midst of longer lists.
func guardedConfig(c impl.Config) (impl.Config, []part) {
	wholeKey, key := guardedKey(c.Key)
	wholeMetas, metas := guardedNumbers(c.Metas)
	return impl.Config{Key: key, Metas: metas}, []part{partOfBytes("the key of the config", wholeKey), partOfNumbers("the Metas", wholeMetas)}
}

// guardedEvents lie in the midst of a longer list, and each list of theirs, too.
func guardedEvents(events []impl.Event) ([]impl.Event, []part) {
	var parts []part
	whole := []impl.Event{tickOf(77), tickOf(78)}
	for i, e := range events {
		wholeData, data := guarded(e.Data)
		wholeKey, key := guardedKey(e.Key)
		e.Data, e.Key = data, key
		whole = append(whole, e)
		parts = append(parts, partOfBytes(fmt.Sprint("Data of the event ", i), wholeData), partOfBytes(fmt.Sprint("the key of the event ", i), wholeKey))
	}
	whole = append(whole, tickOf(79), stopOf(80), tickOf(81))
	parts = append(parts, partOf("the events", whole, func(e impl.Event) string {
		return fmt.Sprint(e.Kind, e.Node, e.At, e.Mask, e.Op, e.Key.Id, len(e.Data), len(e.Key.Bytes))
	}, func(e *impl.Event) { *e = impl.Event{Kind: -e.Kind - 1, Node: 9} }))
	return whole[2 : 2+len(events)], parts
}

// checkParts writes over one list after the other: no other one may turn by that.
func checkParts(t *testing.T, name string, parts []part) {
	t.Helper()
	texts := func() []string {
		var out []string
		for _, p := range parts {
			out = append(out, p.text())
		}
		return out
	}
	before := texts()
	for i, p := range parts {
		p.scribble()
		after := texts()
		for k := range parts {
			if k != i && after[k] != before[k] {
				t.Fatalf("%s: %s turns with %s", name, parts[k].name, p.name)
			}
		}
		before = after
	}
}

func TestRunWorldLeavesItsArguments(t *testing.T) {
	for seed := range uint64(12) {
		c, events, want := anyWorld(t, 40+seed, 20+int(seed)*2)
		// Each thing that hands a list on is among them.
		more := []impl.Event{pushOf(0, []byte{1, 2, 3}), copyOf(0), spoilOf(0, 1, 7), keyOf(1, 1, ringKey(9)), pushOf(1, nil), comeOf(0)}
		events = append(events, more...)
		w := &wantWorld{t: t, State: want}
		for _, e := range more {
			w.do(e)
		}
		config, configParts := guardedConfig(c)
		list, eventParts := guardedEvents(events)
		var before string
		for _, p := range append(configParts, eventParts...) {
			before += p.text()
		}
		first, second := impl.RunWorld(config, list), impl.RunWorld(config, list)
		if stateText(first.State) != stateText(w.State) || stateText(second.State) != stateText(w.State) {
			t.Fatalf("asked twice, the world %d is not the same", seed)
		}
		var after string
		for _, p := range append(configParts, eventParts...) {
			after += p.text()
		}
		if before != after {
			t.Errorf("RunWorld of the world %d changes an argument", seed)
		}
		parts := slices.Concat(configParts, eventParts, partsOfState("the first answer's", first.State), partsOfState("the second answer's", second.State))
		checkParts(t, fmt.Sprint("the world ", seed), parts)
	}
}

func TestWorldAtFirstHasListsOfItsOwn(t *testing.T) {
	for count := int64(2); count <= 4; count++ {
		config, parts := guardedConfig(configFor(count))
		for _, events := range [][]impl.Event{nil, {}, {tickOf(0)}, {keyOf(0, 1, ringKey(3)), comeOf(0), keyOf(1, 2, impl.Key{Id: 3})}} {
			s := impl.RunWorld(config, events).State
			want := stateText(s)
			checkParts(t, "a world at first", partsOfState("the state's", s))
			// What was turned in an answer turns nothing in what came in.
			if got := stateText(impl.RunWorld(config, events).State); got != want {
				t.Errorf("behind what was turned in an answer there is another one: %v", got)
			}
			checkParts(t, "a world and its config", append(partsOfState("the state's", impl.RunWorld(config, events).State), parts...))
			config, parts = guardedConfig(configFor(count))
		}
	}
}

func TestStatesThatAreAskedStay(t *testing.T) {
	for seed := range uint64(10) {
		_, _, s := anyWorld(t, 60+seed, 40)
		other := impl.State{Nodes: turnedNodes(), Flights: flightsTo(1, 0, 1), Codes: []int64{1, 2}}
		var parts []part
		for _, state := range []impl.State{s, other} {
			parts = append(parts, partsOfState("the state's", state)...)
		}
		text := func() string {
			out := stateText(s) + stateText(other)
			for _, p := range parts {
				out += p.text()
			}
			return out
		}
		before := text()
		impl.SameStates(s, other)
		impl.SameStates(s, s)
		impl.SameNodes(other.Nodes, s.Nodes)
		impl.SameNodes(other.Nodes, turnedNodes())
		for node := range int64(4) {
			first, second := impl.LettersIn(s, node), impl.LettersIn(s, node)
			want := fmt.Sprint(second.List)
			scribbleNumbers(first.List)
			if fmt.Sprint(second.List) != want || text() != before {
				t.Errorf("LettersIn to %d shares memory", node)
			}
		}
		if text() != before {
			t.Error("a state that is asked is changed")
		}
	}
}

func TestConfigsAndEventsThatAreAskedStay(t *testing.T) {
	events := append(rightEvents(), impl.Event{Kind: impl.EvTurn, Mask: 1, Data: []byte{1, 2}}, pushOf(1, mixedBytes(328, 1)), keyOf(0, 1, sizedKey(1, 15)), impl.Event{Data: []byte{1}})
	list, parts := guardedEvents(events)
	config, configParts := guardedConfig(configFor(3))
	wrong, wrongParts := guardedConfig(impl.Config{Key: sizedKey(1, 15), Metas: []int64{1, -1, 2, 3, 4}})
	parts = slices.Concat(parts, configParts, wrongParts)
	var before []string
	for _, p := range parts {
		before = append(before, p.text())
	}
	for _, e := range list {
		impl.EventFault(e)
	}
	impl.ConfigFault(config)
	impl.ConfigFault(wrong)
	impl.RunWorld(wrong, list)
	for i, p := range parts {
		if p.text() != before[i] {
			t.Errorf("%s is changed", p.name)
		}
	}
}

func TestWorldsHaveNoRoomBehindTheirEnd(t *testing.T) {
	// What lies behind the end of a list is no part of it: neither of the Metas, nor of the events, nor of Data.
	metas := []int64{1, 2, 3, 4, 5, -1}
	for end := range 7 {
		code := impl.ConfigFault(impl.Config{Key: ringKey(1), Metas: metas[:end]})
		checkEqual(t, fmt.Sprintf("ConfigFault of %d Metas", end), code, either(end >= 2 && end <= 4, impl.OK, impl.ErrMany))
	}
	events := append(slices.Repeat([]impl.Event{{}}, 150), tickOf(0), tickOf(1))
	checkEqual(t, "RunWorld of a shorter list", impl.RunWorld(configFor(2), events[:150]).Code, impl.OK)
	checkEqual(t, "RunWorld of a longer list", impl.RunWorld(configFor(2), events[:151]).Code, impl.ErrMany)
	s := impl.RunWorld(configFor(2), events[149:151]).State
	checkEqual(t, "RunWorld of two of a list", fmt.Sprint(s.Codes, s.Nodes[0].Seq, s.Nodes[1].Seq), fmt.Sprint([]int64{impl.ErrForm, 0}, 1, 0))
	data := mixedBytes(400, 3)
	checkEqual(t, "EventFault of a shorter list", impl.EventFault(pushOf(0, data[:327])), impl.OK)
	checkEqual(t, "EventFault of a longer list", impl.EventFault(pushOf(0, data[:328])), impl.ErrMany)
	s = impl.RunWorld(configFor(2), []impl.Event{pushOf(0, data[:5]), spoilOf(0, 5, 1), spoilOf(0, 4, 1)}).State
	checkEqual(t, "a flight of a shorter list", fmt.Sprint(s.Flights[0].Data, s.Codes), fmt.Sprint(spoilt(data[:5], 4, 1), []int64{0, impl.ErrRange, 0}))
	checkEqual(t, "what it was pushed from", data, mixedBytes(400, 3))
}

// stageElevenAnswers asks each function of the chapter, the place i of a list at a time.
func stageElevenAnswers(worlds []impl.State, configs []impl.Config, lists [][]impl.Event, i int) []any {
	events, node := lists[i%len(lists)], int64(i%6-1)
	e := events[i%len(events)]
	e.At += int64(i % 3)
	s, other := worlds[i%len(worlds)], worlds[i*7%len(worlds)]
	c := configs[i%len(configs)]
	out := []any{
		impl.ConfigFault(c), impl.EventFault(e), fmt.Sprint(impl.LettersIn(s, node)), impl.SameStates(s, other), impl.SameNodes(s.Nodes, other.Nodes), impl.SameStates(s, s),
	}
	if i%40 == 0 {
		got := impl.RunWorld(c, events[:i/40%len(events)])
		out = append(out, got.Code, stateText(got.State))
	}
	return out
}

func TestWorldsHangOnArgumentsAlone(t *testing.T) {
	const count = 3000
	var worlds []impl.State
	var lists [][]impl.Event
	for seed := range uint64(9) {
		_, events, s := anyWorld(t, 300+seed, 50)
		worlds, lists = append(worlds, s), append(lists, events)
	}
	configs := []impl.Config{configFor(2), configFor(3), configFor(4), configFor(1), configFor(5), {Key: ringKey(1), Metas: []int64{1, -1}}, {Metas: []int64{1, 2}}, {Key: sizedKey(1, 15)}}
	var first [count][]any
	for i := range count {
		first[i] = stageElevenAnswers(worlds, configs, lists, i)
	}
	for i := count - 1; i >= 0; i-- {
		for k, got := range stageElevenAnswers(worlds, configs, lists, i) {
			if got != first[i][k] {
				t.Errorf("answer %d of the arguments %d: %v, and at first %v", k, i, got, first[i][k])
			}
		}
	}
}

func TestRunWorldBesideOthers(t *testing.T) {
	// Worlds that are run at the same time have nothing to do with each other.
	c, events, want := anyWorld(t, 4, 120)
	done := make(chan string)
	for range 8 {
		go func() { done <- stateText(impl.RunWorld(c, events).State) }()
	}
	for range 8 {
		if got := <-done; got != stateText(want) {
			t.Errorf("a world beside others is %s", got)
		}
	}
}
