package tests

import (
	"testing"

	"loop.example/g00725/impl"
)

// guardedKey lays the Bytes in the midst of a longer list.
func guardedKey(k impl.Key) (whole []byte, piece impl.Key) {
	whole, bytes := guarded(k.Bytes)
	return whole, impl.Key{Id: k.Id, Bytes: bytes}
}

// ringGuard is a ring of which all lists lie in the midst of longer ones, so that whatever is written there is seen.
type ringGuard struct {
	ring   impl.Ring
	keys   []impl.Key
	wholes [][]byte
}

func guardRing(r impl.Ring) ringGuard {
	g := ringGuard{keys: []impl.Key{ringKey(77)}}
	for _, k := range r.Keys {
		whole, piece := guardedKey(k)
		g.wholes = append(g.wholes, whole)
		g.keys = append(g.keys, piece)
	}
	g.keys = append(g.keys, ringKey(78), ringKey(79))
	g.ring = impl.Ring{Primary: r.Primary, Keys: g.keys[1 : 1+len(r.Keys)]}
	return g
}

func (g ringGuard) text() string {
	text := ringText(g.ring) + ringText(impl.Ring{Keys: g.keys})
	for _, whole := range g.wholes {
		text += string(whole)
	}
	return text
}

// scribbleRing writes over all that the ring of an answer can reach.
func scribbleRing(r impl.Ring) {
	for i := range r.Keys {
		scribble(r.Keys[i].Bytes)
	}
	keys := r.Keys[:cap(r.Keys)]
	for i := range keys {
		keys[i] = impl.Key{Id: -7}
	}
}

// checkRingMemory asks twice, and writes over one answer and over all arguments: nothing else may turn by that.
func checkRingMemory(t *testing.T, name string, r impl.Ring, k impl.Key, ask func(r impl.Ring, k impl.Key) impl.RingResult) {
	t.Helper()
	g := guardRing(r)
	whole, piece := guardedKey(k)
	before, beforeKey := g.text(), string(whole)
	first, second := ask(g.ring, piece), ask(g.ring, piece)
	want := ringText(second.Ring)
	if first.Code != second.Code || ringText(first.Ring) != want {
		t.Errorf("%s: asked again it is another answer", name)
	}
	scribbleRing(first.Ring)
	if g.text() != before || string(whole) != beforeKey {
		t.Errorf("%s: an argument is changed, or shared", name)
	}
	if ringText(second.Ring) != want {
		t.Errorf("%s: two answers share memory", name)
	}
	for _, w := range append(g.wholes, whole) {
		scribble(w)
	}
	scribbleRing(impl.Ring{Keys: g.keys})
	if ringText(second.Ring) != want {
		t.Errorf("%s: the answer turns with an argument", name)
	}
	checkOwnLists(t, name, second.Ring)
}

// checkOwnLists writes over one list of an answer after the other: no other one may turn by that.
func checkOwnLists(t *testing.T, name string, r impl.Ring) {
	t.Helper()
	var want []string
	for _, k := range r.Keys {
		want = append(want, string(k.Bytes))
	}
	for i, k := range r.Keys {
		scribble(k.Bytes)
		for j := i + 1; j < len(r.Keys); j++ {
			if string(r.Keys[j].Bytes) != want[j] {
				t.Errorf("%s: the Bytes of the keys %d and %d share memory", name, i, j)
			}
		}
	}
}

// turningFaces are all functions of the chapter that tell a ring, each told a ring and a key.
var turningFaces = map[string]func(r impl.Ring, k impl.Key) impl.RingResult{
	"NewRing":              func(_ impl.Ring, k impl.Key) impl.RingResult { return impl.NewRing(k) },
	"InstallKey":           impl.InstallKey,
	"UseKey":               func(r impl.Ring, k impl.Key) impl.RingResult { return impl.UseKey(r, k.Id) },
	"RemoveKey":            func(r impl.Ring, k impl.Key) impl.RingResult { return impl.RemoveKey(r, k.Id) },
	"TurnRing, KeyInstall": func(r impl.Ring, k impl.Key) impl.RingResult { return impl.TurnRing(r, impl.KeyInstall, k) },
	"TurnRing, KeyUse":     func(r impl.Ring, k impl.Key) impl.RingResult { return impl.TurnRing(r, impl.KeyUse, k) },
	"TurnRing, KeyRemove":  func(r impl.Ring, k impl.Key) impl.RingResult { return impl.TurnRing(r, impl.KeyRemove, k) },
	"TurnRing, no op":      func(r impl.Ring, k impl.Key) impl.RingResult { return impl.TurnRing(r, 4, k) },
}

func TestTurnsLeaveTheirArguments(t *testing.T) {
	rings := append(rightRings(), differentRings()...)
	for name, ask := range turningFaces {
		for _, r := range rings {
			for _, k := range []impl.Key{ringKey(1), ringKey(3), ringKey(5), ringKey(255), {Id: 2}, {Id: 5}, {Id: 255}, ringKey(0), sizedKey(3, 17)} {
				checkRingMemory(t, name, r, k, ask)
			}
		}
	}
}

func TestTurnsOfListsThatAreShared(t *testing.T) {
	// All keys, and the one that is handed in, have one list: those of the answer have one each nevertheless.
	whole, bytes := guarded(mixedBytes(16, 9))
	before := string(whole)
	r := ringOfKeys(5, impl.Key{Id: 2, Bytes: bytes}, impl.Key{Id: 5, Bytes: bytes})
	three := ringOfKeys(5, impl.Key{Id: 2, Bytes: bytes}, impl.Key{Id: 5, Bytes: bytes}, impl.Key{Id: 9, Bytes: bytes})
	for name, got := range map[string]impl.RingResult{
		"NewRing": impl.NewRing(r.Keys[0]), "InstallKey": impl.InstallKey(r, impl.Key{Id: 3, Bytes: bytes}),
		"UseKey": impl.UseKey(three, 9), "UseKey of the Primary": impl.UseKey(three, 5), "RemoveKey": impl.RemoveKey(three, 2),
		"TurnRing": impl.TurnRing(r, impl.KeyInstall, impl.Key{Id: 255, Bytes: bytes}),
	} {
		if got.Code != impl.OK {
			t.Errorf("%s: %v", name, got)
		}
		checkOwnLists(t, name, got.Ring)
		if string(whole) != before {
			t.Errorf("%s: an argument is changed, or shared", name)
		}
	}
}

func TestFindKeyLeavesItsArguments(t *testing.T) {
	for _, r := range append(rightRings(), differentRings()...) {
		for _, id := range []int64{0, 1, 2, 5, 255} {
			g := guardRing(r)
			before := g.text()
			first, second := impl.FindKey(g.ring, id), impl.FindKey(g.ring, id)
			want := string(second.Key.Bytes)
			scribble(first.Key.Bytes)
			if g.text() != before {
				t.Errorf("FindKey of %d in %v: the ring is changed, or shared", id, r)
			}
			for _, whole := range g.wholes {
				scribble(whole)
			}
			if string(second.Key.Bytes) != want || first.Code != second.Code || first.Key.Id != second.Key.Id {
				t.Errorf("FindKey of %d in %v: the answer turns with something else", id, r)
			}
		}
	}
}

func TestRingsThatAreAskedStay(t *testing.T) {
	for _, a := range append(rightRings(), differentRings()...) {
		for _, b := range differentRings() {
			left, right := guardRing(a), guardRing(b)
			beforeLeft, beforeRight := left.text(), right.text()
			impl.RingFault(left.ring)
			impl.SameRings(left.ring, right.ring)
			impl.SameRings(left.ring, left.ring)
			if left.text() != beforeLeft || right.text() != beforeRight {
				t.Fatalf("RingFault or SameRings of %v and %v changes an argument", a, b)
			}
		}
	}
}

// stageFourAnswers asks each function of the chapter, the place i of a list at a time.
func stageFourAnswers(rings []impl.Ring, i int) []any {
	r, other := rings[i%len(rings)], rings[i*7%len(rings)]
	k := sizedKey(keyIds[i%len(keyIds)], 15+i%3)
	if i%4 == 0 {
		k = impl.Key{Id: int64(i % 7)}
	}
	found := impl.FindKey(r, k.Id)
	out := []any{impl.RingFault(r), impl.SameRings(r, other), found.Code, found.Key.Id, string(found.Key.Bytes)}
	for _, got := range []impl.RingResult{
		impl.NewRing(k), impl.InstallKey(r, k), impl.UseKey(r, k.Id), impl.RemoveKey(r, k.Id), impl.TurnRing(r, int64(i%5), k),
	} {
		out = append(out, got.Code, ringText(got.Ring))
	}
	return out
}

func TestRingsHangOnArgumentsAlone(t *testing.T) {
	const count = 1000
	rings := append(rightRings(), differentRings()...)
	var first [count][]any
	for i := range count {
		first[i] = stageFourAnswers(rings, i)
	}
	for i := count - 1; i >= 0; i-- {
		for k, got := range stageFourAnswers(rings, i) {
			if got != first[i][k] {
				t.Errorf("answer %d of the arguments %d: %v, and at first %v", k, i, got, first[i][k])
			}
		}
	}
}
