package tests

import (
	"fmt"
	"math"
	"slices"
	"testing"

	"loop.example/g00725/impl"
)

// wantConfigFault asks code by code, as the document names them.
func wantConfigFault(c impl.Config) int64 {
	if code := wantRingFault(ringOfKeys(c.Key.Id, c.Key)); code != impl.OK {
		return code
	}
	if len(c.Metas) < 2 || len(c.Metas) > 4 {
		return impl.ErrMany
	}
	for _, meta := range c.Metas {
		if !isBetween(0, meta, 9999999) {
			return impl.ErrRange
		}
	}
	return impl.OK
}

// eventNeeds tells of each kind which fields it needs: Node, At, Mask, Data, Op and Key.
var eventNeeds = map[int64][6]bool{
	1: {true}, 8: {true}, 2: {false, true}, 3: {false, true}, 4: {false, true},
	5: {false, true, true, true}, 6: {true, false, false, true}, 7: {true, false, false, false, true, true},
}

// wantEventFault asks code by code, as the document names them.
func wantEventFault(e impl.Event) int64 {
	need, there := eventNeeds[e.Kind]
	if !there {
		return impl.ErrForm
	}
	hasKey := e.Key.Id != 0 || len(e.Key.Bytes) != 0
	for i, has := range [6]bool{e.Node != 0, e.At != 0, e.Mask != 0, len(e.Data) != 0, e.Op != 0, hasKey} {
		if has && !need[i] {
			return impl.ErrForm
		}
	}
	switch {
	case need[0] && !isBetween(0, e.Node, 3), need[1] && !isBetween(0, e.At, 39), need[2] && !isBetween(1, e.Mask, 255):
		return impl.ErrRange
	case len(e.Data) > 327, e.Kind == 5 && len(e.Data) != 1:
		return impl.ErrMany
	case e.Kind == 7:
		return wantMessageFault(impl.Message{Kind: 5, Op: e.Op, Key: e.Key})
	}
	return impl.OK
}

// checkConfigFault holds RunWorld against it, too: its codes are told ahead of all else, and nothing beside them.
func checkConfigFault(t *testing.T, c impl.Config, code int64) {
	t.Helper()
	if got := impl.ConfigFault(c); got != code {
		t.Errorf("ConfigFault of %v = %d, want %d", c, got, code)
	}
	if got := wantConfigFault(c); got != code {
		t.Errorf("by the document's words it is %d of %v, want %d", got, c, code)
	}
	if code == impl.OK {
		return
	}
	for _, events := range [][]impl.Event{nil, {tickOf(0)}, make([]impl.Event, 151)} {
		if got := impl.RunWorld(c, events); got.Code != code || stateText(got.State) != stateText(impl.State{}) {
			t.Errorf("RunWorld of the config %v: %v, want the code %d", c, got, code)
		}
	}
}

// checkEventFault holds RunWorld against it, too: as the code of the event, ahead of that for what is not there.
func checkEventFault(t *testing.T, e impl.Event, code int64) {
	t.Helper()
	if got := impl.EventFault(e); got != code {
		t.Errorf("EventFault of %v = %d, want %d", e, got, code)
	}
	if got := wantEventFault(e); got != code {
		t.Errorf("by the document's words it is %d of %v, want %d", got, e, code)
	}
	if code == impl.OK {
		return
	}
	// Of two nodes the last one is stopped, and nothing flies.
	before := []impl.Event{stopOf(1)}
	got := impl.RunWorld(configFor(2), append(before, e)).State
	want := impl.RunWorld(configFor(2), before).State
	if want.Codes = append(want.Codes, code); stateText(got) != stateText(want) {
		t.Errorf("RunWorld of the event %v: %v, want %v", e, got, want)
	}
}

func TestWorldConstants(t *testing.T) {
	got := [14]int64{
		impl.MaxFlights, impl.MaxEvents, impl.PingTicks, impl.SuspectTicks, impl.HelpTicks, impl.Helpers,
		impl.EvTick, impl.EvCome, impl.EvLose, impl.EvCopy, impl.EvTurn, impl.EvPush, impl.EvKey, impl.EvStop,
	}
	if got != [14]int64{40, 150, 2, 4, 3, 2, 1, 2, 3, 4, 5, 6, 7, 8} {
		t.Errorf("the constants are %v", got)
	}
}

func TestConfigFault(t *testing.T) {
	for _, row := range []struct {
		key   impl.Key
		metas []int64
		code  int64
	}{
		{ringKey(1), []int64{0, 0}, impl.OK}, {ringKey(255), []int64{9999999, 0, 9999999}, impl.OK}, {ringKey(9), []int64{5, 5, 5, 5}, impl.OK},
		// How many Metas there are: none, one, one more than there may be, and many.
		{ringKey(1), nil, impl.ErrMany}, {ringKey(1), []int64{}, impl.ErrMany}, {ringKey(1), []int64{7}, impl.ErrMany}, {ringKey(1), []int64{1, 2, 3, 4, 5}, impl.ErrMany},
		{ringKey(1), make([]int64, 300), impl.ErrMany}, {ringKey(1), make([]int64, 258), impl.ErrMany},
		// The codes of NewRing, ahead of all others.
		{ringKey(0), []int64{0, 0}, impl.ErrRange}, {ringKey(256), []int64{0, 0}, impl.ErrRange}, {sizedKey(1, 15), []int64{0, 0}, impl.ErrMany}, {sizedKey(1, 17), []int64{0, 0}, impl.ErrMany},
		{impl.Key{}, []int64{0, 0}, impl.ErrRange}, {impl.Key{Id: 1}, []int64{0, 0}, impl.ErrMany}, {sizedKey(256, 0), []int64{0, 0}, impl.ErrRange},
		{ringKey(0), nil, impl.ErrRange}, {ringKey(256), []int64{1}, impl.ErrRange}, {ringKey(-1), make([]int64, 5), impl.ErrRange},
		{sizedKey(1, 15), []int64{-1, 0}, impl.ErrMany}, {sizedKey(1, 0), []int64{0, 10000000}, impl.ErrMany}, {sizedKey(0, 15), []int64{-1}, impl.ErrRange},
		// ErrMany ahead of ErrRange.
		{ringKey(1), []int64{-1}, impl.ErrMany}, {ringKey(1), []int64{10000000}, impl.ErrMany}, {ringKey(1), []int64{0, 0, 0, 0, -1}, impl.ErrMany}, {ringKey(1), []int64{-1, 0, 0, 0, 0}, impl.ErrMany},
	} {
		checkConfigFault(t, impl.Config{Key: row.key, Metas: row.metas}, row.code)
	}
	for _, id := range keyIds {
		checkConfigFault(t, impl.Config{Key: ringKey(id), Metas: []int64{1, 2}}, rangeOr(1 <= id && id <= 255))
	}
}

func TestConfigFaultOfEachMeta(t *testing.T) {
	for count := 2; count <= 4; count++ {
		for at := range count {
			for _, n := range boundsOf(0, 9999999) {
				for _, other := range []int64{0, 9999999} {
					metas := slices.Repeat([]int64{other}, count)
					metas[at] = n
					checkConfigFault(t, impl.Config{Key: ringKey(3), Metas: metas}, rangeOr(0 <= n && n <= 9999999))
				}
			}
		}
	}
}

// rightEvents are of each Kind, each field of theirs at its bounds.
func rightEvents() []impl.Event {
	var out []impl.Event
	for _, node := range []int64{0, 1, 2, 3} {
		out = append(out, tickOf(node), stopOf(node), pushOf(node, nil), pushOf(node, []byte{}), pushOf(node, []byte{0}), pushOf(node, mixedBytes(327, int(node))))
		for _, id := range []int64{1, 2, 255} {
			out = append(out, keyOf(node, 1, ringKey(id)), keyOf(node, 2, impl.Key{Id: id}), keyOf(node, 3, impl.Key{Id: id, Bytes: []byte{}}))
		}
	}
	for _, at := range []int64{0, 1, 39} {
		out = append(out, comeOf(at), loseOf(at), copyOf(at), spoilOf(at, 0, 1), spoilOf(at, 255, 255), spoilOf(at, 7, 128))
	}
	return out
}

// eventOfKind is a right event of the Kind, of which no number that it needs is 0.
func eventOfKind(kind int64) impl.Event {
	switch kind {
	case 5:
		return spoilOf(2, 3, 4)
	case 6:
		return pushOf(3, []byte{7, 8})
	case 7:
		return keyOf(3, 1, ringKey(9))
	case 1, 8:
		return impl.Event{Kind: kind, Node: 3}
	}
	return impl.Event{Kind: kind, At: 2}
}

func TestEventFaultOfRightOnes(t *testing.T) {
	for _, e := range rightEvents() {
		checkEventFault(t, e, impl.OK)
	}
	for kind := int64(1); kind <= 8; kind++ {
		checkEventFault(t, eventOfKind(kind), impl.OK)
	}
}

func TestEventFaultOfKinds(t *testing.T) {
	for _, kind := range []int64{0, 9, -1, -8, 10, 255, 256, 257, 1 << 32, 1<<32 + 1, math.MinInt64, math.MinInt64 + 1, math.MaxInt64} {
		checkEventFault(t, impl.Event{Kind: kind}, impl.ErrForm)
		checkEventFault(t, impl.Event{Kind: kind, Node: 1}, impl.ErrForm)
		checkEventFault(t, impl.Event{Kind: kind, Node: 9, At: -1, Mask: 256, Data: make([]byte, 328), Op: 7, Key: sizedKey(0, 3)}, impl.ErrForm)
	}
}

// withField is e with one of its fields, by its number, not zero: right for some Kind, or wrong for all.
func withField(e impl.Event, field int, wrong bool) impl.Event {
	number, bytes := int64(1), 1
	if wrong {
		number, bytes = -1, 328
	}
	switch field {
	case 0:
		e.Node = number
	case 1:
		e.At = number
	case 2:
		e.Mask = number
	case 3:
		e.Data = make([]byte, bytes)
	case 4:
		e.Op = number
	case 5:
		e.Key.Id = number
	case 6:
		e.Key.Bytes = make([]byte, bytes)
	}
	return e
}

func TestEventFaultOfWhatIsNotNeeded(t *testing.T) {
	for kind := int64(1); kind <= 8; kind++ {
		need := eventNeeds[kind]
		for field := range 7 {
			if need[min(field, 5)] {
				continue
			}
			for _, wrong := range []bool{false, true} {
				checkEventFault(t, withField(eventOfKind(kind), field, wrong), impl.ErrForm)
				checkEventFault(t, withField(impl.Event{Kind: kind}, field, wrong), impl.ErrForm)
				// Ahead of all else that is wrong.
				for other := range 7 {
					if other != field {
						checkEventFault(t, withField(withField(eventOfKind(kind), other, true), field, wrong), impl.ErrForm)
					}
				}
			}
		}
		// No bytes are no Data, and no key.
		if !need[3] {
			e := eventOfKind(kind)
			e.Data = []byte{}
			checkEventFault(t, e, impl.OK)
		}
		if !need[5] {
			e := eventOfKind(kind)
			e.Key.Bytes = []byte{}
			checkEventFault(t, e, impl.OK)
		}
	}
}

func TestEventFaultOfEachNumber(t *testing.T) {
	for kind := int64(1); kind <= 8; kind++ {
		e, need := eventOfKind(kind), eventNeeds[kind]
		for _, n := range append(boundsOf(0, 3), 2, 5) {
			if e.Node = n; need[0] {
				checkEventFault(t, e, rangeOr(0 <= n && n <= 3))
			}
		}
		e = eventOfKind(kind)
		for _, n := range append(boundsOf(0, 39), 20, 41, 149, 150) {
			if e.At = n; need[1] {
				checkEventFault(t, e, rangeOr(0 <= n && n <= 39))
			}
		}
		e = eventOfKind(kind)
		for _, n := range append(boundsOf(1, 255), 128, 257, 511, 512) {
			if e.Mask = n; need[2] {
				checkEventFault(t, e, rangeOr(1 <= n && n <= 255))
			}
		}
	}
	// Each bound beside the others.
	checkEventFault(t, impl.Event{Kind: impl.EvTurn, Data: []byte{1}}, impl.ErrRange)
	checkEventFault(t, spoilOf(40, 1, 1), impl.ErrRange)
	checkEventFault(t, spoilOf(39, 1, 256), impl.ErrRange)
	checkEventFault(t, pushOf(4, []byte{1}), impl.ErrRange)
	checkEventFault(t, pushOf(-1, nil), impl.ErrRange)
	checkEventFault(t, keyOf(4, 1, ringKey(2)), impl.ErrRange)
}

func TestEventFaultOfData(t *testing.T) {
	for _, size := range []int{0, 1, 2, 11, 26, 27, 326, 327, 328, 329, 400, 583, 1000} {
		checkEventFault(t, pushOf(2, mixedBytes(size, 3)), either(size <= 327, impl.OK, impl.ErrMany))
		checkEventFault(t, impl.Event{Kind: impl.EvTurn, At: 3, Mask: 9, Data: mixedBytes(size, 3)}, either(size == 1, impl.OK, impl.ErrMany))
		// A number that leaves its bounds is told ahead of it.
		checkEventFault(t, pushOf(4, mixedBytes(size, 3)), impl.ErrRange)
		checkEventFault(t, impl.Event{Kind: impl.EvTurn, At: 40, Mask: 9, Data: mixedBytes(size, 3)}, impl.ErrRange)
		checkEventFault(t, impl.Event{Kind: impl.EvTurn, At: 3, Data: mixedBytes(size, 3)}, impl.ErrRange)
		checkEventFault(t, impl.Event{Kind: impl.EvTurn, At: 3, Mask: 256, Data: mixedBytes(size, 3)}, impl.ErrRange)
	}
	checkEventFault(t, impl.Event{Kind: impl.EvTurn, At: 3, Mask: 9}, impl.ErrMany)
	checkEventFault(t, impl.Event{Kind: impl.EvTurn, At: 3, Mask: 9, Data: []byte{}}, impl.ErrMany)
}

func TestEventFaultOfKeys(t *testing.T) {
	for op := int64(-1); op <= 5; op++ {
		for _, id := range keyIds {
			for _, size := range []int{0, 1, 15, 16, 17, 32, 300} {
				k := sizedKey(id, size)
				for node := range int64(5) {
					code := wantMessageFault(turnOf(op, k))
					if node == 4 {
						code = impl.ErrRange
					}
					checkKeyFault(t, keyOf(node, op, k), code)
				}
			}
		}
	}
	for _, row := range []struct {
		op   int64
		k    impl.Key
		code int64
	}{
		{1, ringKey(7), impl.OK}, {2, impl.Key{Id: 7}, impl.OK}, {3, impl.Key{Id: 7}, impl.OK},
		{0, ringKey(7), impl.ErrRange}, {4, ringKey(7), impl.ErrRange}, {1, ringKey(0), impl.ErrRange}, {1, ringKey(256), impl.ErrRange}, {2, impl.Key{}, impl.ErrRange},
		{1, sizedKey(7, 15), impl.ErrMany}, {1, sizedKey(7, 17), impl.ErrMany}, {1, impl.Key{Id: 7}, impl.ErrMany}, {2, sizedKey(7, 1), impl.ErrMany}, {2, ringKey(7), impl.ErrMany},
		{3, sizedKey(7, 1), impl.ErrMany}, {3, ringKey(7), impl.ErrMany}, {0, sizedKey(7, 1), impl.ErrRange}, {2, ringKey(0), impl.ErrRange},
		// A key has as many bytes as it may have, and not as many as Data.
		{1, sizedKey(7, 327), impl.ErrMany}, {1, sizedKey(7, 328), impl.ErrMany},
	} {
		for node := range int64(2) {
			checkEventFault(t, keyOf(node, row.op, row.k), row.code)
		}
	}
	for _, op := range []int64{math.MinInt64, math.MaxInt64, 1 << 32, 1<<32 + 1, 257} {
		checkEventFault(t, keyOf(0, op, ringKey(7)), impl.ErrRange)
		checkEventFault(t, keyOf(0, op, impl.Key{Id: 7}), impl.ErrRange)
	}
}

// checkKeyFault is checkEventFault without a world.
func checkKeyFault(t *testing.T, e impl.Event, code int64) {
	t.Helper()
	if got := impl.EventFault(e); got != code {
		t.Errorf("EventFault of %v = %d, want %d", e, got, code)
	}
}

func TestEventFaultOfManyEvents(t *testing.T) {
	numbers := []int64{0, 1, 3, 4, 39, 40, -1, 255, 256}
	datas := [][]byte{nil, {}, {0}, {1, 2}, make([]byte, 327), make([]byte, 328)}
	keys := []impl.Key{{}, {Id: 1}, ringKey(1), sizedKey(0, 16), sizedKey(256, 0), sizedKey(3, 15), {Bytes: []byte{1}}}
	for i := range 40000 {
		// Most fields are zero, so that more than the form is asked.
		pick := func(from int, of int) int { return (i/from*7 + i/(from*3)) % of }
		e := impl.Event{Kind: int64(i % 10)}
		need := eventNeeds[e.Kind]
		if need[0] || i%11 == 0 {
			e.Node = numbers[pick(10, 9)]
		}
		if need[1] || i%13 == 0 {
			e.At = numbers[pick(13, 9)]
		}
		if need[2] || i%17 == 0 {
			e.Mask = numbers[pick(17, 9)]
		}
		if need[3] || i%19 == 0 {
			e.Data = datas[pick(19, 6)]
		}
		if need[4] || i%23 == 0 {
			e.Op = numbers[pick(23, 9)]
		}
		if need[5] || i%29 == 0 {
			e.Key = keys[pick(29, 7)]
		}
		if got, want := impl.EventFault(e), wantEventFault(e); got != want {
			t.Fatalf("EventFault of %s = %d, want %d", fmt.Sprintf("%+v", e), got, want)
		}
	}
}
