package tests

import (
	"fmt"
	"testing"

	"loop.example/g00725/impl"
)

// messagesGuard is a list of messages of which all lists lie in the midst of longer ones.
type messagesGuard struct {
	list   []impl.Message
	all    []impl.Message
	wholes [][]byte
}

func guardMessages(list []impl.Message) messagesGuard {
	g := messagesGuard{all: []impl.Message{ackOf(77)}}
	for _, m := range list {
		whole, piece := guardedKey(m.Key)
		g.wholes = append(g.wholes, whole)
		m.Key = piece
		g.all = append(g.all, m)
	}
	g.all = append(g.all, pingOf(78, 1), ackOf(79))
	g.list = g.all[1 : 1+len(list)]
	return g
}

func (g messagesGuard) text() string {
	text := messagesText(g.all)
	for _, whole := range g.wholes {
		text += string(whole)
	}
	return text
}

// scribbleMessages writes over all that the messages of an answer can reach.
func scribbleMessages(list []impl.Message) {
	for i := range list {
		scribble(list[i].Key.Bytes)
	}
	list = list[:cap(list)]
	for i := range list {
		list[i] = impl.Message{Kind: -7}
	}
}

// checkPackedMemory asks twice, and writes over one answer and over the messages: nothing else may turn by that.
func checkPackedMemory(t *testing.T, name string, list []impl.Message, ask func(list []impl.Message) impl.BytesResult) {
	t.Helper()
	g := guardMessages(list)
	before := g.text()
	first, second := ask(g.list), ask(g.list)
	want := string(second.Bytes)
	if first.Code != second.Code || string(first.Bytes) != want {
		t.Errorf("%s: asked again it is another answer", name)
	}
	scribble(first.Bytes)
	if g.text() != before {
		t.Errorf("%s: an argument is changed, or shared", name)
	}
	if string(second.Bytes) != want {
		t.Errorf("%s: two answers share memory", name)
	}
	for _, whole := range g.wholes {
		scribble(whole)
	}
	scribbleMessages(g.all)
	if string(second.Bytes) != want {
		t.Errorf("%s: the answer turns with an argument", name)
	}
}

// checkReadMemory is the same of what is read from bytes, and of the lists of one answer among each other.
func checkReadMemory(t *testing.T, name string, data []byte, ask func(data []byte) impl.MessagesResult) {
	t.Helper()
	whole, piece := guarded(data)
	before := string(whole)
	first, second := ask(piece), ask(piece)
	want := messagesText(second.Messages)
	if first.Code != second.Code || messagesText(first.Messages) != want {
		t.Errorf("%s: asked again it is another answer", name)
	}
	scribbleMessages(first.Messages)
	if string(whole) != before {
		t.Errorf("%s: an argument is changed, or shared", name)
	}
	if messagesText(second.Messages) != want {
		t.Errorf("%s: two answers share memory", name)
	}
	scribble(whole)
	if messagesText(second.Messages) != want {
		t.Errorf("%s: the answer turns with an argument", name)
	}
	keys := impl.Ring{}
	for _, m := range second.Messages {
		keys.Keys = append(keys.Keys, m.Key)
	}
	checkOwnLists(t, name, keys)
}

// memoryLists are lists of messages, right and wrong ones, few enough to be asked of each function.
func memoryLists() [][]impl.Message {
	five := []impl.Message{rightOfKind(5), rightOfKind(1), rightOfKind(5), rightOfKind(4), turnOf(impl.KeyUse, impl.Key{Id: 2})}
	lists := append(rightLists(), five, differentMessages(), five[:1], append(five[:2:2], impl.Message{}), make([]impl.Message, 13))
	for _, m := range differentMessages() {
		lists = append(lists, []impl.Message{m}, []impl.Message{rightOfKind(5), m})
	}
	return lists
}

func TestEncodingLeavesItsArguments(t *testing.T) {
	for i, list := range memoryLists() {
		checkPackedMemory(t, fmt.Sprintf("EncodeMessages of the list %d", i), list, impl.EncodeMessages)
		for _, m := range list {
			checkPackedMemory(t, fmt.Sprintf("EncodeMessage of %v", m), []impl.Message{m}, func(list []impl.Message) impl.BytesResult {
				return impl.EncodeMessage(list[0])
			})
		}
	}
}

func TestDecodingLeavesItsArguments(t *testing.T) {
	for _, list := range memoryLists() {
		data := wantAllPacked(list)
		for _, d := range [][]byte{data, data[:len(data)-1], spoilt(data, 0, 1), append(data, 0), data[len(data)/2:]} {
			checkReadMemory(t, fmt.Sprintf("DecodeMessages of %x", d), d, impl.DecodeMessages)
		}
	}
	for _, m := range append(rightMessages(), differentMessages()...) {
		data := wantPacked(m)
		for _, d := range [][]byte{data, data[:len(data)-1], spoilt(data, 0, 1), append(data, 0)} {
			checkReadMemory(t, fmt.Sprintf("DecodeMessage of %x", d), d, impl.DecodeMessage)
		}
	}
	checkReadMemory(t, "DecodeMessages of nothing", nil, impl.DecodeMessages)
	checkReadMemory(t, "DecodeMessage of nothing", nil, impl.DecodeMessage)
}

func TestMessagesThatAreAskedStay(t *testing.T) {
	lists := memoryLists()
	for i, a := range lists {
		left, right := guardMessages(a), guardMessages(lists[i*7%len(lists)])
		beforeLeft, beforeRight := left.text(), right.text()
		for _, m := range left.list {
			impl.ClaimFault(m.Claim)
			impl.MessageFault(m)
		}
		impl.SameMessages(left.list, right.list)
		impl.SameMessages(left.list, left.list)
		impl.SameMessages(left.list, guardMessages(a).list)
		if left.text() != beforeLeft || right.text() != beforeRight {
			t.Fatalf("ClaimFault, MessageFault or SameMessages of the list %d changes an argument", i)
		}
	}
}

func TestMessagesOfListsThatAreShared(t *testing.T) {
	// All keys have one list: what is read back has one each nevertheless.
	whole, bytes := guarded(mixedBytes(16, 9))
	before := string(whole)
	m := turnOf(impl.KeyInstall, impl.Key{Id: 5, Bytes: bytes})
	list := []impl.Message{m, m, rightOfKind(2), m}
	packed := impl.EncodeMessages(list)
	checkBlock(t, "EncodeMessages", nil, packed, wantAllPacked(list))
	checkReadMemory(t, "DecodeMessages", packed.Bytes, impl.DecodeMessages)
	scribble(packed.Bytes)
	scribble(impl.EncodeMessage(m).Bytes)
	if string(whole) != before {
		t.Error("an argument is changed, or shared")
	}
	// The key is a piece of the bytes that it is read from.
	data := wantPacked(m)
	told := impl.DecodeMessage(data)
	again := impl.EncodeMessage(turnOf(impl.KeyInstall, impl.Key{Id: 5, Bytes: data[3:]}))
	scribble(again.Bytes)
	scribble(told.Messages[0].Key.Bytes)
	if string(data) != string(wantPacked(m)) {
		t.Error("bytes that have the key are changed, or shared")
	}
}

func TestMessagesHaveNoRoomBehindTheirEnd(t *testing.T) {
	// What lies behind the end of a list is no part of it: it is neither told nor read.
	list := []impl.Message{ackOf(1), rightOfKind(5), {}, pingOf(1, 4)}
	checkBlock(t, "EncodeMessages of a shorter list", nil, impl.EncodeMessages(list[:2]), wantAllPacked(list[:2]))
	checkBlock(t, "EncodeMessages of none of a list", nil, impl.EncodeMessages(list[:0]), []byte{0})
	if !impl.SameMessages(list[:1], []impl.Message{ackOf(1)}) || impl.SameMessages(list[:1], list[:2]) {
		t.Error("what lies behind the end of a list of messages counts")
	}
	one, all := wantPacked(rightOfKind(5)), wantAllPacked(list[:2])
	for end := 1; end < len(one); end++ {
		checkDecoded(t, one[:end], messagesCode(impl.ErrText))
	}
	for end := 1; end < len(all); end++ {
		checkAllDecoded(t, all[:end], messagesCode(impl.ErrText))
	}
	m := rightOfKind(5)
	m.Key.Bytes = mixedBytes(40, 3)[:16]
	checkBlock(t, "EncodeMessage of a shorter list", nil, impl.EncodeMessage(m), wantPacked(m))
}

// stageSevenAnswers asks each function of the chapter, the place i of a list at a time.
func stageSevenAnswers(lists [][]impl.Message, messages []impl.Message, i int) []any {
	list, other, m := lists[i%len(lists)], lists[i*7%len(lists)], messages[i%len(messages)]
	one, all := impl.EncodeMessage(m), impl.EncodeMessages(list)
	out := []any{
		impl.ClaimFault(m.Claim), impl.MessageFault(m), one.Code, string(one.Bytes), all.Code, string(all.Bytes),
		impl.SameMessages(list, other), impl.SameMessages(list, list),
	}
	for _, data := range [][]byte{wantPacked(m), wantAllPacked(list), mixedBytes(i%23, i)} {
		for _, got := range []impl.MessagesResult{impl.DecodeMessage(data), impl.DecodeMessages(data)} {
			out = append(out, got.Code, messagesText(got.Messages))
		}
	}
	return out
}

func TestMessagesHangOnArgumentsAlone(t *testing.T) {
	const count = 1000
	lists, messages := memoryLists(), append(differentMessages(), rightMessages()...)
	var first [count][]any
	for i := range count {
		first[i] = stageSevenAnswers(lists, messages, i)
	}
	for i := count - 1; i >= 0; i-- {
		for k, got := range stageSevenAnswers(lists, messages, i) {
			if got != first[i][k] {
				t.Errorf("answer %d of the arguments %d: %v, and at first %v", k, i, got, first[i][k])
			}
		}
	}
}

func TestMessagesAnswerNothingBesideACode(t *testing.T) {
	for _, list := range memoryLists() {
		if got := impl.EncodeMessages(list); got.Code != impl.OK && len(got.Bytes) != 0 {
			t.Errorf("EncodeMessages of %v: %v", list, got)
		}
		data := wantAllPacked(list)
		for end := range min(len(data), 310) {
			for _, got := range []impl.MessagesResult{impl.DecodeMessages(data[:end]), impl.DecodeMessage(data[:end])} {
				if got.Code != impl.OK && len(got.Messages) != 0 {
					t.Errorf("what is read from %x: %v", data[:end], got)
				}
			}
		}
	}
}
