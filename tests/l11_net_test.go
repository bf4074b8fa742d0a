package tests

import (
	"crypto/aes"
	"crypto/cipher"
	"encoding/binary"
	"fmt"
	"slices"
	"testing"

	"loop.example/g00725/impl"
)

func tickOf(node int64) impl.Event {
	return impl.Event{Kind: impl.EvTick, Node: node}
}

func stopOf(node int64) impl.Event {
	return impl.Event{Kind: impl.EvStop, Node: node}
}

func comeOf(at int64) impl.Event {
	return impl.Event{Kind: impl.EvCome, At: at}
}

func loseOf(at int64) impl.Event {
	return impl.Event{Kind: impl.EvLose, At: at}
}

func copyOf(at int64) impl.Event {
	return impl.Event{Kind: impl.EvCopy, At: at}
}

func spoilOf(at int64, place byte, mask int64) impl.Event {
	return impl.Event{Kind: impl.EvTurn, At: at, Data: []byte{place}, Mask: mask}
}

func pushOf(node int64, data []byte) impl.Event {
	return impl.Event{Kind: impl.EvPush, Node: node, Data: data}
}

func keyOf(node int64, op int64, k impl.Key) impl.Event {
	return impl.Event{Kind: impl.EvKey, Node: node, Op: op, Key: k}
}

// configFor is a world of as many nodes, with the key 1 and another Meta of each.
func configFor(count int64) impl.Config {
	c := impl.Config{Key: ringKey(1)}
	for i := range count {
		c.Metas = append(c.Metas, 65536+i)
	}
	return c
}

// letterBy is a letter that no node sent, but could have: of this sender, with this number, by the ringKey of the Id.
func letterBy(t *testing.T, id int64, sender int64, counter int64, list ...impl.Message) []byte {
	t.Helper()
	return wantLetter(t, ringKey(id).Bytes, impl.Letter{Key: id, Sender: sender, Counter: counter, Text: wantAllPacked(list)})
}

// stateText tells all of a state; an empty list and nil are told alike.
func stateText(s impl.State) string {
	return fmt.Sprint(s)
}

// wantWorld is a world by the document's words, event by event.
type wantWorld struct {
	t *testing.T
	impl.State
}

// firstWorld is the world at first.
func firstWorld(t *testing.T, c impl.Config) *wantWorld {
	w := &wantWorld{t: t}
	var view []impl.Claim
	for i, meta := range c.Metas {
		view = append(view, aClaim(int64(i), 1, 0, meta))
	}
	for i := range view {
		n := impl.NodeState{Own: view[i], View: slices.Clone(view), Ring: ringOfKeys(c.Key.Id, c.Key), Last: -1}
		for range view {
			n.Windows = append(n.Windows, impl.Window{Top: -1})
		}
		w.Nodes = append(w.Nodes, n)
	}
	return w
}

// wantOpened is OpenLetter by the document's words, and by the library's cipher.
func wantOpened(t *testing.T, r impl.Ring, data []byte) (impl.Letter, bool) {
	t.Helper()
	if len(data) < 11+16 || len(data) > 11+300+16 || data[0] != 1 || data[2] > 15 {
		return impl.Letter{}, false
	}
	l := impl.Letter{Key: int64(data[1]), Sender: int64(data[2])}
	number, at := binary.BigEndian.Uint64(data[3:]), placeOf(r, l.Key)
	if number > 1000000000 || at < 0 {
		return impl.Letter{}, false
	}
	l.Counter = int64(number)
	block, err := aes.NewCipher(r.Keys[at].Bytes)
	if err != nil {
		t.Fatal(err)
	}
	box, err := cipher.NewGCM(block)
	if err != nil {
		t.Fatal(err)
	}
	l.Text, err = box.Open(nil, wantNonce(l.Sender, l.Counter), data[11:], data[:11])
	return l, err == nil
}

func (w *wantWorld) send(from int64, to int64, m impl.Message) {
	n := &w.Nodes[from]
	list := []impl.Message{m}
	for _, c := range n.View {
		list = append(list, impl.Message{Kind: 4, Claim: c})
	}
	key := n.Ring.Keys[placeOf(n.Ring, n.Ring.Primary)]
	l := impl.Letter{Key: key.Id, Sender: from, Counter: n.Counter, Text: wantAllPacked(list)}
	if len(w.Flights) < 40 {
		w.Flights = append(w.Flights, impl.Flight{To: to, Data: wantLetter(w.t, key.Bytes, l)})
	}
	n.Counter++
}

func (w *wantWorld) wait(at int64, wait impl.Wait) {
	if n := &w.Nodes[at]; len(n.Waits) < 40 {
		n.Waits = append(slices.Clone(n.Waits), wait)
	}
}

func (w *wantWorld) merge(at int64, c impl.Claim) bool {
	merged := wantMerge(w.Nodes[at].View, c)
	w.Nodes[at].View = merged.View
	return merged.Changed
}

func (w *wantWorld) tick(at int64) {
	n := &w.Nodes[at]
	aged := wantAged(n.Waits)
	n.Waits = aged.Waits
	for _, wait := range aged.Expired {
		switch wait.Kind {
		case 1:
			for _, helper := range wantHelpers(n.View, at, wait.Node, 2).List {
				w.send(at, helper, askOf(wait.Seq, wait.Node))
			}
			w.wait(at, waitOf(2, wait.Seq, wait.Node, 2))
		case 2:
			c := wantSuspected(n.View, wait.Node).Claim
			w.merge(at, c)
			known := slices.ContainsFunc(n.Waits, func(o impl.Wait) bool { return o.Kind == 3 && o.Node == c.Node && o.Inc == c.Inc })
			if c.Status == 1 && !known {
				w.wait(at, suspectWait(c.Node, c.Inc, 4))
			}
		case 3:
			w.merge(at, wantBuried(n.View, suspectWait(wait.Node, wait.Inc, 1)).Claim)
		}
	}
	for _, wait := range n.Waits {
		if wait.Kind < 3 {
			return
		}
	}
	n.Seq++
	n.Last = wantNext(n.View, at, n.Last).Value
	w.send(at, n.Last, pingOf(n.Seq, n.Last))
	w.wait(at, waitOf(1, n.Seq, n.Last, 2))
}

func (w *wantWorld) hear(at int64, data []byte) {
	n := &w.Nodes[at]
	l, ok := wantOpened(w.t, n.Ring, data)
	if !ok || l.Sender == at || l.Sender >= int64(len(w.Nodes)) {
		n.Drops++
		return
	}
	taken, read := wantTaken(n.Windows[l.Sender], l.Counter), wantAllDecoded(l.Text)
	if taken.Code != 0 || read.Code != 0 {
		n.Drops++
		return
	}
	n.Windows[l.Sender] = taken.Window
	for _, m := range read.Messages {
		w.hearOne(at, l.Sender, m)
	}
}

func (w *wantWorld) hearOne(at int64, sender int64, m impl.Message) {
	n := &w.Nodes[at]
	switch {
	case (m.Kind == 1 || m.Kind == 3) && m.Node == at:
		w.send(at, sender, ackOf(m.Seq))
	case m.Kind == 3 && m.Node < int64(len(w.Nodes)):
		n.Seq++
		w.send(at, m.Node, pingOf(n.Seq, m.Node))
		w.wait(at, helpWait(n.Seq, m.Node, 3, sender, m.Seq))
	case m.Kind == 2:
		cleared := wantCleared(n.Waits, m.Seq)
		n.Waits = cleared.Waits
		for _, wait := range cleared.Expired {
			if wait.Kind == 4 {
				w.send(at, wait.For, ackOf(wait.Old))
			}
		}
	case m.Kind == 4 && m.Claim.Node == at:
		if got := wantRefuted(n.Own, m.Claim); got.Code == 0 && got.Made {
			n.Own = got.Claim
			w.merge(at, got.Claim)
		}
	case m.Kind == 4 && m.Claim.Node < int64(len(w.Nodes)):
		if w.merge(at, m.Claim) && m.Claim.Status == 1 {
			w.wait(at, suspectWait(m.Claim.Node, m.Claim.Inc, 4))
		}
	case m.Kind == 5:
		if turned := wantTurned(n.Ring, m.Op, m.Key); turned.Code == 0 {
			n.Ring = turned.Ring
		}
	}
}

// code asks all codes of an event, and turns nothing.
func (w *wantWorld) code(e impl.Event) int64 {
	ofNode, ofFlight := slices.Contains([]int64{1, 6, 7, 8}, e.Kind), slices.Contains([]int64{2, 3, 4, 5}, e.Kind)
	fault := wantEventFault(e)
	switch {
	case fault != 0:
		return fault
	case ofNode && e.Node >= int64(len(w.Nodes)), ofFlight && e.At >= int64(len(w.Flights)):
		return impl.ErrNone
	case ofNode && e.Kind != 6 && w.Nodes[e.Node].Stopped:
		return impl.ErrState
	case (e.Kind == 4 || e.Kind == 6) && len(w.Flights) == 40:
		return impl.ErrFull
	case e.Kind == 5 && int(e.Data[0]) >= len(w.Flights[e.At].Data):
		return impl.ErrRange
	case e.Kind == 7:
		return wantTurned(w.Nodes[e.Node].Ring, e.Op, e.Key).Code
	}
	return impl.OK
}

// do is one event; one with a code turns nothing but Codes.
func (w *wantWorld) do(e impl.Event) int64 {
	code := w.code(e)
	w.Codes = append(w.Codes, code)
	if code != 0 {
		return code
	}
	switch e.Kind {
	case 1:
		w.tick(e.Node)
	case 2, 3:
		f := w.Flights[e.At]
		w.Flights = slices.Concat(w.Flights[:e.At], w.Flights[e.At+1:])
		if e.Kind == 2 && !w.Nodes[f.To].Stopped {
			w.hear(f.To, f.Data)
		}
	case 4:
		w.Flights = append(w.Flights, w.Flights[e.At])
	case 5:
		f := &w.Flights[e.At]
		f.Data = spoilt(f.Data, int(e.Data[0]), byte(e.Mask))
	case 6:
		w.Flights = append(w.Flights, impl.Flight{To: e.Node, Data: e.Data})
	case 7:
		turned := wantTurned(w.Nodes[e.Node].Ring, e.Op, e.Key).Ring
		for other := range int64(len(w.Nodes)) {
			if other != e.Node {
				w.send(e.Node, other, turnOf(e.Op, e.Key))
			}
		}
		w.Nodes[e.Node].Ring = turned
	case 8:
		w.Nodes[e.Node].Stopped = true
	}
	return code
}

// wantRun is RunWorld by the document's words.
func wantRun(t *testing.T, c impl.Config, events []impl.Event) impl.StateResult {
	if code := wantConfigFault(c); code != 0 {
		return impl.StateResult{Code: code}
	}
	if len(events) > 150 {
		return impl.StateResult{Code: impl.ErrMany}
	}
	w := firstWorld(t, c)
	for _, e := range events {
		w.do(e)
	}
	return impl.StateResult{State: w.State}
}

// checkRun holds RunWorld against the document's words, and answers its state.
func checkRun(t *testing.T, name string, c impl.Config, events ...impl.Event) impl.State {
	t.Helper()
	got, want := impl.RunWorld(c, events), wantRun(t, c, events)
	if got.Code != want.Code || stateText(got.State) != stateText(want.State) {
		t.Errorf("%s: %d %v, want %d %v", name, got.Code, got.State, want.Code, want.State)
	}
	return got.State
}

// sent is what a flight is when it is opened: to whom, by which key, of whom, with which number, and what is told there
// ahead of the claims.
type sent struct {
	to, key, sender, counter int64
	message                  impl.Message
}

// checkSent opens all flights: behind their messages they tell of each its view, the same of all.
func checkSent(t *testing.T, name string, s impl.State, view []impl.Claim, list ...sent) {
	t.Helper()
	if len(s.Flights) != len(list) {
		t.Fatalf("%s: there are %d flights, want %d", name, len(s.Flights), len(list))
	}
	for i, want := range list {
		f := s.Flights[i]
		l, ok := wantOpened(t, ringOf(want.key, want.key), f.Data)
		told := []impl.Message{want.message}
		for _, c := range view {
			told = append(told, impl.Message{Kind: impl.MsgClaim, Claim: c})
		}
		if !ok || f.To != want.to || l.Sender != want.sender || l.Counter != want.counter || string(l.Text) != string(wantAllPacked(told)) {
			t.Errorf("%s: the flight %d to %d is %v (%v), want %v", name, i, f.To, l, wantAllDecoded(l.Text).Messages, want)
		}
	}
}

// viewFor is what all know at first in the world of configFor.
func viewFor(count int64) []impl.Claim {
	var view []impl.Claim
	for i := range count {
		view = append(view, aClaim(i, 1, 0, 65536+i))
	}
	return view
}

// viewWith is view with these claims in the place of those of the same nodes.
func viewWith(view []impl.Claim, claims ...impl.Claim) []impl.Claim {
	out := slices.Clone(view)
	for _, c := range claims {
		out[c.Node] = c
	}
	return out
}

func checkEqual[T any](t *testing.T, name string, got T, want T) {
	t.Helper()
	if fmt.Sprint(got) != fmt.Sprint(want) {
		t.Errorf("%s: %v, want %v", name, got, want)
	}
}
