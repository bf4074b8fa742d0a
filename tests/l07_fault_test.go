package tests

import (
	"fmt"
	"math"
	"testing"

	"loop.example/g00725/impl"
)

func pingOf(seq int64, node int64) impl.Message {
	return impl.Message{Kind: impl.MsgPing, Seq: seq, Node: node}
}

func ackOf(seq int64) impl.Message {
	return impl.Message{Kind: impl.MsgAck, Seq: seq}
}

func askOf(seq int64, node int64) impl.Message {
	return impl.Message{Kind: impl.MsgAsk, Seq: seq, Node: node}
}

func claimOf(node int64, inc int64, status int64, meta int64) impl.Message {
	return impl.Message{Kind: impl.MsgClaim, Claim: impl.Claim{Node: node, Inc: inc, Status: status, Meta: meta}}
}

func turnOf(op int64, k impl.Key) impl.Message {
	return impl.Message{Kind: impl.MsgKey, Op: op, Key: k}
}

// boundsOf are both bounds of a number, what is beside them, and as far out as an int64 can tell.
func boundsOf(low int64, high int64) []int64 {
	return []int64{
		low - 1, low, low + 1, high - 1, high, high + 1, -256, 256 + low, -1 << 32, 1<<32 + low, 1<<32 + high,
		math.MinInt64, math.MinInt64 + low, math.MaxInt64, math.MaxInt64 - 1, math.MaxInt64 - high,
	}
}

func isBetween(low int64, n int64, high int64) bool {
	return low <= n && n <= high
}

func rangeOr(right bool) int64 {
	if right {
		return impl.OK
	}
	return impl.ErrRange
}

func wantClaimFault(c impl.Claim) int64 {
	return rangeOr(isBetween(0, c.Node, 3) && isBetween(0, c.Inc, 1000000) && isBetween(0, c.Status, 2) && isBetween(0, c.Meta, 9999999))
}

// needs tells of each kind which fields it needs: Seq, Node, Claim, Op and Key.
var needs = map[int64][5]bool{
	1: {true, true, false, false, false}, 2: {true, false, false, false, false}, 3: {true, true, false, false, false},
	4: {false, false, true, false, false}, 5: {false, false, false, true, true},
}

// wantMessageFault asks code by code, as the document names them.
func wantMessageFault(m impl.Message) int64 {
	need, there := needs[m.Kind]
	if !there {
		return impl.ErrForm
	}
	hasKey := m.Key.Id != 0 || len(m.Key.Bytes) != 0
	for i, has := range [5]bool{m.Seq != 0, m.Node != 0, m.Claim != impl.Claim{}, m.Op != 0, hasKey} {
		if has && !need[i] {
			return impl.ErrForm
		}
	}
	switch {
	case m.Kind == 4:
		return wantClaimFault(m.Claim)
	case !isBetween(0, m.Seq, 1000000), !isBetween(0, m.Node, 3):
		return impl.ErrRange
	case m.Kind != 5:
		return impl.OK
	case !isBetween(1, m.Op, 3), !isRightId(m.Key.Id):
		return impl.ErrRange
	case m.Op == 1 && len(m.Key.Bytes) != 16, m.Op != 1 && len(m.Key.Bytes) != 0:
		return impl.ErrMany
	}
	return impl.OK
}

func checkMessageFault(t *testing.T, m impl.Message, code int64) {
	t.Helper()
	if got := impl.MessageFault(m); got != code {
		t.Errorf("MessageFault of %v = %d, want %d", m, got, code)
	}
	checkCode(t, fmt.Sprintf("EncodeMessage of %v", m), impl.EncodeMessage(m), code)
}

func TestWireConstants(t *testing.T) {
	got := [13]int64{
		impl.MaxNodes, impl.MaxMessages, impl.MaxSeq, impl.MaxInc, impl.MaxMeta,
		impl.MsgPing, impl.MsgAck, impl.MsgAsk, impl.MsgClaim, impl.MsgKey,
		impl.StatusAlive, impl.StatusSuspect, impl.StatusDead,
	}
	if got != [13]int64{4, 12, 1000000, 1000000, 9999999, 1, 2, 3, 4, 5, 0, 1, 2} {
		t.Errorf("the constants are %v", got)
	}
}

func TestClaimFaultOfEachNumber(t *testing.T) {
	check := func(c impl.Claim, code int64) {
		t.Helper()
		if got := impl.ClaimFault(c); got != code {
			t.Errorf("ClaimFault of %v = %d, want %d", c, got, code)
		}
		// Of a claim a message has its fault.
		if c != (impl.Claim{}) {
			checkMessageFault(t, impl.Message{Kind: impl.MsgClaim, Claim: c}, code)
		}
	}
	// Beside the least of the other numbers, and beside the greatest ones.
	for _, other := range []impl.Claim{{}, {Node: 3, Inc: 1000000, Status: 2, Meta: 9999999}} {
		check(other, impl.OK)
		for _, n := range boundsOf(0, 3) {
			check(impl.Claim{Node: n, Inc: other.Inc, Status: other.Status, Meta: other.Meta}, rangeOr(0 <= n && n <= 3))
		}
		for _, n := range boundsOf(0, 1000000) {
			check(impl.Claim{Node: other.Node, Inc: n, Status: other.Status, Meta: other.Meta}, rangeOr(0 <= n && n <= 1000000))
		}
		for _, n := range boundsOf(0, 2) {
			check(impl.Claim{Node: other.Node, Inc: other.Inc, Status: n, Meta: other.Meta}, rangeOr(0 <= n && n <= 2))
		}
		for _, n := range boundsOf(0, 9999999) {
			check(impl.Claim{Node: other.Node, Inc: other.Inc, Status: other.Status, Meta: n}, rangeOr(0 <= n && n <= 9999999))
		}
	}
	// The bounds of one number are not those of another one.
	check(impl.Claim{Node: 2, Inc: 3, Status: 2, Meta: 1000001}, impl.OK)
	check(impl.Claim{Status: 3}, impl.ErrRange)
	check(impl.Claim{Node: 4}, impl.ErrRange)
	check(impl.Claim{Inc: 1000001}, impl.ErrRange)
}

func TestMessageFaultOfKinds(t *testing.T) {
	for _, kind := range []int64{0, 6, 7, -1, -5, 255, 256, 257, 261, 1<<32 + 1, 1<<32 + 5, math.MinInt64, math.MinInt64 + 1, math.MaxInt64} {
		checkMessageFault(t, impl.Message{Kind: kind}, impl.ErrForm)
		checkMessageFault(t, impl.Message{Kind: kind, Seq: 1, Node: 2}, impl.ErrForm)
		checkMessageFault(t, impl.Message{Kind: kind, Op: impl.KeyInstall, Key: ringKey(5)}, impl.ErrForm)
		checkMessageFault(t, impl.Message{Kind: kind, Seq: -1, Node: 9, Claim: impl.Claim{Status: 3}, Op: 9, Key: sizedKey(0, 3)}, impl.ErrForm)
	}
	checkMessageFault(t, impl.Message{Kind: impl.MsgPing}, impl.OK)
	checkMessageFault(t, impl.Message{Kind: impl.MsgAck}, impl.OK)
	checkMessageFault(t, impl.Message{Kind: impl.MsgAsk}, impl.OK)
	checkMessageFault(t, impl.Message{Kind: impl.MsgClaim}, impl.OK)
	// An Op and an Id are never 0.
	checkMessageFault(t, impl.Message{Kind: impl.MsgKey}, impl.ErrRange)
}

// rightOfKind is a right message of the kind, of which no number that it needs is 0.
func rightOfKind(kind int64) impl.Message {
	switch kind {
	case 1:
		return pingOf(7, 2)
	case 2:
		return ackOf(300)
	case 3:
		return askOf(9, 3)
	case 4:
		return claimOf(1, 2, 1, 65616)
	}
	return turnOf(impl.KeyInstall, ringKey(5))
}

func TestMessageFaultOfWhatIsNotNeeded(t *testing.T) {
	for kind := int64(1); kind <= 5; kind++ {
		// Each field that is turned, and the place of what needs it: 1 is a right number of each, the others are none of any.
		for _, n := range []int64{1, -1, math.MinInt64, math.MaxInt64, 1 << 32} {
			for i, turn := range []func(m *impl.Message){
				func(m *impl.Message) { m.Seq = n }, func(m *impl.Message) { m.Node = n },
				func(m *impl.Message) { m.Claim.Node = n }, func(m *impl.Message) { m.Claim.Inc = n },
				func(m *impl.Message) { m.Claim.Status = n }, func(m *impl.Message) { m.Claim.Meta = n },
				func(m *impl.Message) { m.Op = n }, func(m *impl.Message) { m.Key.Id = n },
				func(m *impl.Message) { m.Key.Bytes = make([]byte, 16) }, func(m *impl.Message) { m.Key.Bytes = []byte{0} },
			} {
				if needs[kind][[]int{0, 1, 2, 2, 2, 2, 3, 4, 4, 4}[i]] {
					continue
				}
				m, zeros := rightOfKind(kind), impl.Message{Kind: kind}
				checkMessageFault(t, m, impl.OK)
				turn(&m)
				turn(&zeros)
				checkMessageFault(t, m, impl.ErrForm)
				checkMessageFault(t, zeros, impl.ErrForm)
			}
		}
	}
}

func TestMessageFaultOfNilAndEmpty(t *testing.T) {
	for _, bytes := range [][]byte{nil, {}, make([]byte, 0, 16), mixedBytes(16, 3)[:0]} {
		for kind := int64(1); kind <= 4; kind++ {
			m := rightOfKind(kind)
			m.Key.Bytes = bytes
			checkMessageFault(t, m, impl.OK)
		}
		checkMessageFault(t, turnOf(impl.KeyInstall, impl.Key{Id: 1, Bytes: bytes}), impl.ErrMany)
		checkMessageFault(t, turnOf(impl.KeyUse, impl.Key{Id: 1, Bytes: bytes}), impl.OK)
		checkMessageFault(t, turnOf(impl.KeyRemove, impl.Key{Id: 1, Bytes: bytes}), impl.OK)
	}
}

func TestMessageFaultOfNumbers(t *testing.T) {
	for _, seq := range boundsOf(0, 1000000) {
		want := rangeOr(0 <= seq && seq <= 1000000)
		checkMessageFault(t, pingOf(seq, 0), want)
		checkMessageFault(t, pingOf(seq, 3), want)
		checkMessageFault(t, askOf(seq, 0), want)
		checkMessageFault(t, askOf(seq, 3), want)
		checkMessageFault(t, ackOf(seq), want)
	}
	for _, node := range boundsOf(0, 3) {
		want := rangeOr(0 <= node && node <= 3)
		checkMessageFault(t, pingOf(0, node), want)
		checkMessageFault(t, pingOf(1000000, node), want)
		checkMessageFault(t, askOf(0, node), want)
		checkMessageFault(t, askOf(1000000, node), want)
	}
	for _, op := range boundsOf(1, 3) {
		right := 1 <= op && op <= 3
		if op == impl.KeyInstall {
			checkMessageFault(t, turnOf(op, ringKey(5)), impl.OK)
			continue
		}
		checkMessageFault(t, turnOf(op, impl.Key{Id: 5}), rangeOr(right))
	}
	for _, id := range append(boundsOf(1, 255), keyIds...) {
		want := rangeOr(1 <= id && id <= 255)
		checkMessageFault(t, turnOf(impl.KeyInstall, sizedKey(id, 16)), want)
		checkMessageFault(t, turnOf(impl.KeyUse, impl.Key{Id: id}), want)
		checkMessageFault(t, turnOf(impl.KeyRemove, impl.Key{Id: id}), want)
	}
}

func TestMessageFaultOfBytes(t *testing.T) {
	for _, size := range []int{0, 1, 12, 15, 16, 17, 24, 32, 97, 98, 300, 5000} {
		installs, others := int64(impl.ErrMany), int64(impl.ErrMany)
		if size == 16 {
			installs = impl.OK
		}
		if size == 0 {
			others = impl.OK
		}
		for _, id := range []int64{1, 5, 255} {
			checkMessageFault(t, turnOf(impl.KeyInstall, sizedKey(id, size)), installs)
			checkMessageFault(t, turnOf(impl.KeyUse, sizedKey(id, size)), others)
			checkMessageFault(t, turnOf(impl.KeyRemove, sizedKey(id, size)), others)
		}
	}
	// The capacity does not count.
	checkMessageFault(t, turnOf(impl.KeyInstall, impl.Key{Id: 1, Bytes: mixedBytes(32, 1)[:16]}), impl.OK)
	checkMessageFault(t, turnOf(impl.KeyInstall, impl.Key{Id: 1, Bytes: mixedBytes(16, 1)[:15]}), impl.ErrMany)
}

func TestMessageFaultWhichCodeIsFirst(t *testing.T) {
	for _, m := range []impl.Message{
		{Kind: 1, Seq: -1, Node: 4, Op: 1}, {Kind: 1, Seq: 1000001, Key: impl.Key{Id: 1}}, {Kind: 2, Seq: -1, Node: 1},
		{Kind: 2, Seq: -1, Node: 9}, {Kind: 3, Node: -1, Claim: impl.Claim{Status: 9}}, {Kind: 3, Seq: -1, Key: sizedKey(0, 3)},
		{Kind: 4, Seq: 1, Claim: impl.Claim{Node: 4}}, {Kind: 4, Node: 1, Claim: impl.Claim{Status: 3}}, {Kind: 4, Op: 9, Claim: impl.Claim{Inc: -1}},
		{Kind: 5, Seq: 1, Op: 4, Key: impl.Key{Id: 5}}, {Kind: 5, Node: 1, Op: 2, Key: sizedKey(256, 3)},
		{Kind: 5, Claim: impl.Claim{Meta: 1}, Op: 1, Key: sizedKey(5, 15)}, {Kind: 5, Seq: -1, Op: 2, Key: sizedKey(5, 16)},
	} {
		checkMessageFault(t, m, impl.ErrForm)
	}
	for _, m := range []impl.Message{
		turnOf(0, sizedKey(5, 3)), turnOf(4, sizedKey(5, 16)), turnOf(-1, sizedKey(5, 0)), turnOf(0, sizedKey(5, 0)),
		turnOf(impl.KeyInstall, sizedKey(0, 15)), turnOf(impl.KeyInstall, sizedKey(256, 0)), turnOf(impl.KeyUse, sizedKey(0, 16)), turnOf(impl.KeyRemove, sizedKey(-1, 1)),
	} {
		checkMessageFault(t, m, impl.ErrRange)
	}
}

func TestMessageFaultOfManyMessages(t *testing.T) {
	claims := []impl.Claim{{}, {Node: 3, Inc: 1000000, Status: 2, Meta: 9999999}, {Node: 4}, {Inc: -1}, {Status: 3}, {Meta: 10000000}}
	keys := []impl.Key{{}, {Id: 1}, {Id: 255}, {Id: 256}, {Id: -1}, ringKey(1), ringKey(255), ringKey(256), {Bytes: make([]byte, 16)}, sizedKey(7, 15), sizedKey(7, 17)}
	for kind := int64(-1); kind <= 7; kind++ {
		for _, seq := range []int64{0, 1, 1000000, 1000001, -1, math.MaxInt64} {
			for _, node := range []int64{0, 1, 3, 4, -1, math.MinInt64} {
				for _, claim := range claims {
					for op := int64(-1); op <= 4; op++ {
						for _, key := range keys {
							m := impl.Message{Kind: kind, Seq: seq, Node: node, Claim: claim, Op: op, Key: key}
							if got, want := impl.MessageFault(m), wantMessageFault(m); got != want {
								t.Fatalf("MessageFault of %v = %d, want %d", m, got, want)
							}
						}
					}
				}
			}
		}
	}
}

// differentMessages are any messages, right and wrong ones, of which no two are the same.
func differentMessages() []impl.Message {
	out := []impl.Message{
		{}, {Key: impl.Key{Bytes: []byte{0}}}, {Key: impl.Key{Bytes: []byte{1}}}, {Key: impl.Key{Bytes: []byte{0, 0}}},
		{Kind: 5, Op: 1, Key: sizedKey(5, 15)}, {Kind: 5, Op: 1, Key: sizedKey(5, 16)}, {Kind: 5, Op: 1, Key: sizedKey(5, 17)}, {Kind: 5, Op: 1, Key: sizedKey(6, 16)},
		{Kind: 5, Op: 1, Key: impl.Key{Id: 6, Bytes: ringKey(5).Bytes}}, {Kind: 5, Op: 1, Key: impl.Key{Id: 5, Bytes: spoilt(ringKey(5).Bytes, 15, 1)}},
		{Kind: 5, Op: 1, Key: impl.Key{Id: 5, Bytes: spoilt(ringKey(5).Bytes, 0, 128)}}, {Kind: 5, Op: 1, Key: sizedKey(5, 2000)},
		{Kind: 1, Seq: 2, Node: 3}, {Kind: 3, Seq: 2, Node: 1}, {Kind: 2, Seq: 1, Node: 3}, {Kind: 2, Seq: 3, Node: 1}, {Kind: 3, Seq: 2, Node: 3}, {Kind: 2, Seq: 2},
		claimOf(1, 2, 1, 3), claimOf(2, 1, 1, 3), claimOf(1, 1, 2, 3), claimOf(3, 2, 1, 1), claimOf(1, 3, 1, 2), claimOf(1, 2, 3, 1), claimOf(1, 2, 1, 4),
		turnOf(2, impl.Key{Id: 1}), turnOf(1, impl.Key{Id: 2}), turnOf(3, impl.Key{Id: 1}), turnOf(2, impl.Key{Id: 3}),
	}
	for _, n := range []int64{1, 2, -1, 1<<32 + 1, math.MinInt64, math.MaxInt64} {
		out = append(out, impl.Message{Kind: n}, impl.Message{Seq: n}, impl.Message{Node: n}, impl.Message{Op: n}, impl.Message{Key: impl.Key{Id: n}},
			impl.Message{Claim: impl.Claim{Node: n}}, impl.Message{Claim: impl.Claim{Inc: n}},
			impl.Message{Claim: impl.Claim{Status: n}}, impl.Message{Claim: impl.Claim{Meta: n}})
	}
	return out
}

func TestSameMessagesFieldByField(t *testing.T) {
	left, right := differentMessages(), differentMessages()
	for i, a := range left {
		for j, b := range right {
			for _, lists := range [][2][]impl.Message{{{a}, {b}}, {{left[3], a}, {right[3], b}}, {{a, left[3]}, {b, right[3]}}} {
				if got := impl.SameMessages(lists[0], lists[1]); got != (i == j) {
					t.Errorf("SameMessages of %v and %v = %v", lists[0], lists[1], got)
				}
			}
		}
	}
}

func TestSameMessagesOfListsOfOtherLengthsAndOrders(t *testing.T) {
	a, b, c := ackOf(1), pingOf(2, 3), turnOf(impl.KeyInstall, ringKey(5))
	lists := [][]impl.Message{
		{}, {a}, {b}, {c}, {a, a}, {a, b}, {b, a}, {a, b, c}, {a, c, b}, {b, a, c}, {b, c, a}, {c, a, b}, {c, b, a}, {a, b, b}, {a, a, b},
		{a, b, {}}, {{}, a, b}, {{}}, {{}, {}}, differentMessages(), differentMessages()[1:], make([]impl.Message, 13), make([]impl.Message, 2000),
	}
	for i, left := range lists {
		for j, right := range lists {
			if got := impl.SameMessages(left, right); got != (i == j) {
				t.Errorf("SameMessages of the lists %d and %d = %v", i, j, got)
			}
		}
	}
}

func TestSameMessagesOfNilAndEmpty(t *testing.T) {
	for _, a := range [][]impl.Message{nil, {}, differentMessages()[:0]} {
		for _, b := range [][]impl.Message{nil, {}} {
			if !impl.SameMessages(a, b) {
				t.Errorf("SameMessages of %#v and %#v is false", a, b)
			}
		}
		if impl.SameMessages(a, make([]impl.Message, 1)) || impl.SameMessages(make([]impl.Message, 1), a) {
			t.Errorf("SameMessages of %#v and a message is true", a)
		}
	}
	for _, kind := range []int64{0, 2, 5, 6} {
		none, empty := impl.Message{Kind: kind}, impl.Message{Kind: kind, Key: impl.Key{Bytes: []byte{}}}
		if !impl.SameMessages([]impl.Message{none}, []impl.Message{empty}) || !impl.SameMessages([]impl.Message{empty}, []impl.Message{none}) {
			t.Error("Bytes that are nil and Bytes that are empty are not the same")
		}
	}
}
