package tests

import (
	"encoding/binary"
	"fmt"
	"slices"
	"testing"

	"loop.example/g00725/impl"
)

// messagesText tells all fields; an empty list and nil are told alike.
func messagesText(list []impl.Message) string {
	return fmt.Sprint(len(list), list)
}

// areAlike holds field by field, as SameMessages has to.
func areAlike(a []impl.Message, b []impl.Message) bool {
	return slices.EqualFunc(a, b, func(m impl.Message, n impl.Message) bool {
		return m.Kind == n.Kind && m.Seq == n.Seq && m.Node == n.Node && m.Claim == n.Claim && m.Op == n.Op &&
			m.Key.Id == n.Key.Id && string(m.Key.Bytes) == string(n.Key.Bytes)
	})
}

func messagesCode(code int64) impl.MessagesResult {
	return impl.MessagesResult{Code: code}
}

func toldMessages(list ...impl.Message) impl.MessagesResult {
	return impl.MessagesResult{Messages: list}
}

func checkDecoded(t *testing.T, data []byte, want impl.MessagesResult) {
	t.Helper()
	if got := impl.DecodeMessage(data); got.Code != want.Code || !areAlike(got.Messages, want.Messages) {
		t.Errorf("DecodeMessage of %x: %v, want %v", data, got, want)
	}
}

func checkAllDecoded(t *testing.T, data []byte, want impl.MessagesResult) {
	t.Helper()
	if got := impl.DecodeMessages(data); got.Code != want.Code || !areAlike(got.Messages, want.Messages) {
		t.Errorf("DecodeMessages of %x: %v, want %v", data, got, want)
	}
}

// wantPacked has the bytes of a message as they are told, right ones or not.
func wantPacked(m impl.Message) []byte {
	out := []byte{byte(m.Kind)}
	word := func(n int64) { out = binary.BigEndian.AppendUint32(out, uint32(n)) }
	one := func(n int64) { out = append(out, byte(n)) }
	switch m.Kind {
	case 1, 3:
		word(m.Seq)
		one(m.Node)
	case 2:
		word(m.Seq)
	case 4:
		one(m.Claim.Node)
		word(m.Claim.Inc)
		one(m.Claim.Status)
		word(m.Claim.Meta)
	case 5:
		one(m.Op)
		one(m.Key.Id)
		out = append(out, m.Key.Bytes...)
	}
	return out
}

func wantAllPacked(list []impl.Message) []byte {
	out := []byte{byte(len(list))}
	for _, m := range list {
		packed := wantPacked(m)
		out = append(append(out, byte(len(packed))), packed...)
	}
	return out
}

// wantDecoded is DecodeMessage by the document's words: by kind and length there is but one message of these bytes.
func wantDecoded(data []byte) impl.MessagesResult {
	if len(data) == 0 || len(data) > 100 {
		return messagesCode(impl.ErrMany)
	}
	m := impl.Message{Kind: int64(data[0])}
	word := func(at int) int64 { return int64(binary.BigEndian.Uint32(data[at:])) }
	switch {
	case (m.Kind == 1 || m.Kind == 3) && len(data) == 6:
		m.Seq, m.Node = word(1), int64(data[5])
	case m.Kind == 2 && len(data) == 5:
		m.Seq = word(1)
	case m.Kind == 4 && len(data) == 11:
		m.Claim = impl.Claim{Node: int64(data[1]), Inc: word(2), Status: int64(data[6]), Meta: word(7)}
	case m.Kind == 5 && len(data) >= 3:
		m.Op, m.Key = int64(data[1]), impl.Key{Id: int64(data[2]), Bytes: data[3:]}
	default:
		return messagesCode(impl.ErrText)
	}
	if wantMessageFault(m) != impl.OK {
		return messagesCode(impl.ErrText)
	}
	return toldMessages(m)
}

// wantAllDecoded is DecodeMessages by the document's words: piece by piece, and all of them again are the data.
func wantAllDecoded(data []byte) impl.MessagesResult {
	if len(data) > 300 {
		return messagesCode(impl.ErrMany)
	}
	var list []impl.Message
	for at := 1; at < len(data); at += 1 + int(data[at]) {
		piece := data[at+1 : min(len(data), at+1+int(data[at]))]
		one := wantDecoded(piece)
		if len(piece) != int(data[at]) || one.Code != impl.OK {
			return messagesCode(impl.ErrText)
		}
		list = append(list, one.Messages...)
	}
	if len(list) > 12 || string(wantAllPacked(list)) != string(data) {
		return messagesCode(impl.ErrText)
	}
	return toldMessages(list...)
}

// rightMessages are messages without a fault: the bounds of all numbers, and what lies between them.
func rightMessages() []impl.Message {
	var out []impl.Message
	for _, seq := range []int64{0, 1, 127, 128, 255, 256, 300, 65535, 65536, 66051, 999999, 1000000} {
		out = append(out, ackOf(seq))
		for node := range int64(4) {
			out = append(out, pingOf(seq, node), askOf(seq, node))
		}
	}
	for node := range int64(4) {
		for status := range int64(3) {
			for _, inc := range []int64{0, 1, 2, 255, 256, 66051, 1000000} {
				for _, meta := range []int64{0, 1, 255, 256, 65535, 65616, 1 << 20, 9999999} {
					out = append(out, claimOf(node, inc, status, meta))
				}
			}
		}
	}
	for _, id := range []int64{1, 2, 16, 127, 128, 254, 255} {
		out = append(out, turnOf(impl.KeyInstall, ringKey(id)), turnOf(impl.KeyInstall, impl.Key{Id: id, Bytes: make([]byte, 16)}),
			turnOf(impl.KeyUse, impl.Key{Id: id}), turnOf(impl.KeyRemove, impl.Key{Id: id}))
	}
	return out
}

// rightLists are lists of right messages, of each length that there may be.
func rightLists() [][]impl.Message {
	all := rightMessages()
	lists := [][]impl.Message{nil, {}}
	for count := 1; count <= 12; count++ {
		for seed := range 8 {
			var list []impl.Message
			for i := range count {
				list = append(list, all[(seed*131+i*i*17+i*41+count*7)%len(all)])
			}
			lists = append(lists, list)
		}
		for kind := int64(1); kind <= 5; kind++ {
			list := make([]impl.Message, count)
			for i := range list {
				list[i] = rightOfKind(kind)
			}
			lists = append(lists, list)
		}
	}
	return lists
}

func TestEncodeMessageExamples(t *testing.T) {
	key := impl.Key{Id: 200, Bytes: fromHex(t, "000102030405060708090a0b0c0d0e0f")}
	for _, row := range []struct {
		m    impl.Message
		want string
	}{
		{ackOf(300), "020000012c"},
		{ackOf(0), "0200000000"}, {ackOf(1000000), "02000f4240"},
		{pingOf(1, 2), "010000000102"}, {pingOf(0, 0), "010000000000"}, {pingOf(1000000, 3), "01000f424003"},
		{askOf(66051, 1), "030001020301"}, {askOf(0, 0), "030000000000"},
		{claimOf(1, 2, 1, 65616), "0401000000020100010050"}, {claimOf(0, 0, 0, 0), "0400000000000000000000"},
		{claimOf(3, 1000000, 2, 9999999), "0403000f4240020098967f"}, {claimOf(2, 66051, 0, 6909060), "0402000102030000696c84"},
		{turnOf(impl.KeyInstall, key), "0501c8000102030405060708090a0b0c0d0e0f"},
		{turnOf(impl.KeyUse, impl.Key{Id: 1}), "050201"}, {turnOf(impl.KeyRemove, impl.Key{Id: 255}), "0503ff"},
	} {
		checkBlock(t, fmt.Sprintf("EncodeMessage of %v", row.m), nil, impl.EncodeMessage(row.m), fromHex(t, row.want))
		checkDecoded(t, fromHex(t, row.want), toldMessages(row.m))
	}
}

func TestMessagesAreReadBack(t *testing.T) {
	texts := map[string]impl.Message{}
	for _, m := range rightMessages() {
		got := impl.EncodeMessage(m)
		checkBlock(t, fmt.Sprintf("EncodeMessage of %v", m), nil, got, wantPacked(m))
		checkDecoded(t, got.Bytes, toldMessages(m))
		if other, there := texts[string(got.Bytes)]; there {
			t.Errorf("%v and %v have the same bytes", m, other)
		}
		texts[string(got.Bytes)] = m
	}
}

func TestEncodeMessageOfAnyMessage(t *testing.T) {
	for _, m := range append(differentMessages(), rightMessages()...) {
		want := wantMessageFault(m)
		got := impl.EncodeMessage(m)
		checkCode(t, fmt.Sprintf("EncodeMessage of %v", m), got, want)
		if want == impl.OK && string(got.Bytes) != string(wantPacked(m)) {
			t.Errorf("EncodeMessage of %v = %x", m, got.Bytes)
		}
	}
}

func TestEncodeMessageOfNilAndEmptyBytes(t *testing.T) {
	for _, bytes := range [][]byte{nil, {}, mixedBytes(9, 1)[:0]} {
		checkBlock(t, "EncodeMessage", nil, impl.EncodeMessage(turnOf(impl.KeyUse, impl.Key{Id: 7, Bytes: bytes})), []byte{5, 2, 7})
		m := ackOf(300)
		m.Key.Bytes = bytes
		checkBlock(t, "EncodeMessage", nil, impl.EncodeMessage(m), []byte{2, 0, 0, 1, 44})
	}
}

func TestDecodeMessageHowManyBytes(t *testing.T) {
	checkDecoded(t, nil, messagesCode(impl.ErrMany))
	checkDecoded(t, []byte{}, messagesCode(impl.ErrMany))
	for kind := range 8 {
		for _, size := range []int{1, 2, 99, 100, 101, 102, 300, 301, 5000} {
			data := append([]byte{byte(kind), 1, 1}, make([]byte, 5000)...)[:size]
			want := messagesCode(impl.ErrText)
			if size > 100 {
				want = messagesCode(impl.ErrMany)
			}
			checkDecoded(t, data, want)
		}
	}
}

func TestDecodeMessageTooFewAndLeft(t *testing.T) {
	for _, m := range []impl.Message{
		rightOfKind(1), rightOfKind(2), rightOfKind(3), rightOfKind(4), rightOfKind(5), pingOf(0, 0), ackOf(0), askOf(0, 0), claimOf(0, 0, 0, 0),
		turnOf(impl.KeyInstall, impl.Key{Id: 1, Bytes: make([]byte, 16)}), turnOf(impl.KeyUse, impl.Key{Id: 1}), turnOf(impl.KeyRemove, impl.Key{Id: 255}),
	} {
		right := wantPacked(m)
		for end := 1; end < len(right); end++ {
			checkDecoded(t, right[:end], messagesCode(impl.ErrText))
			checkDecoded(t, right[end:], wantDecoded(right[end:]))
		}
		for _, more := range [][]byte{{0}, {1}, {255}, {0, 0}, make([]byte, 16), right, make([]byte, 100-len(right))} {
			data := append(append([]byte{}, right...), more...)
			checkDecoded(t, data, messagesCode(impl.ErrText))
		}
	}
}

func TestDecodeMessageOfMessagesThatHaveAFault(t *testing.T) {
	zeros := "00000000000000000000000000000000"
	for _, text := range []string{
		// No such kind.
		"00", "000000000000", "060000000000", "ff0000000000", "060001", "0000000000000000000000", "00" + "0101" + zeros,
		// Seq and Node of a ping, an ack and an ask.
		"01000f424100", "010000000004", "0100000000ff", "01ffffffff00", "018000000000", "010000010004",
		"02000f4241", "0280000000", "02ffffffff", "0200989680",
		"03000f424100", "030000000004", "03ffffffffff",
		// Node, Inc, Status and Meta of a claim.
		"0404000000000000000000", "04ff000000000000000000", "0400000f42410000000000", "0400ffffffff0000000000",
		"0400000000000300000000", "040000000000ff00000000", "0400000000000000989680", "04000000000000ffffffff", "0400000000000080000000",
		// Op, Id and Bytes of a key.
		"050001", "050401", "05ff01", "050200", "050300", "050001" + zeros, "050100" + zeros, "050401" + zeros,
		"050101", "050101" + zeros[2:], "050101" + zeros + "00", "050201" + zeros, "050201" + "00", "050301" + "00", "050301" + zeros,
	} {
		data := fromHex(t, text)
		checkDecoded(t, data, messagesCode(impl.ErrText))
		// Nor does it stand alone or between others.
		one := append([]byte{byte(len(data))}, data...)
		checkAllDecoded(t, append([]byte{1}, one...), messagesCode(impl.ErrText))
		checkAllDecoded(t, append(append([]byte{3, 5, 2, 0, 0, 0, 1}, one...), 3, 5, 2, 1), messagesCode(impl.ErrText))
	}
	checkAllDecoded(t, []byte{2, 5, 2, 0, 0, 0, 1, 3, 5, 2, 1}, toldMessages(ackOf(1), turnOf(impl.KeyUse, impl.Key{Id: 1})))
}

func TestDecodeMessageOfEachByteTurned(t *testing.T) {
	for i, m := range rightMessages() {
		if i%7 != 0 && m.Kind == 4 {
			continue
		}
		right := wantPacked(m)
		for at := range right {
			for mask := 1; mask < 256; mask++ {
				data := spoilt(right, at, byte(mask))
				checkDecoded(t, data, wantDecoded(data))
			}
		}
	}
}

func TestDecodeMessageOfMixedBytes(t *testing.T) {
	for seed := range 3000 {
		data := mixedBytes(seed%25, seed*3)
		if len(data) > 0 {
			data[0] %= 7
		}
		for i := 1; i < len(data) && seed%2 == 0; i++ {
			data[i] %= 4
		}
		got := impl.DecodeMessage(data)
		checkDecoded(t, data, wantDecoded(data))
		if got.Code == impl.OK {
			checkBlock(t, "EncodeMessage of what was read", data, impl.EncodeMessage(got.Messages[0]), data)
		}
	}
}

func TestEncodeMessagesExamples(t *testing.T) {
	for _, row := range []struct {
		list []impl.Message
		want string
	}{
		{nil, "00"}, {[]impl.Message{}, "00"},
		{[]impl.Message{ackOf(300)}, "01" + "05020000012c"},
		{[]impl.Message{ackOf(300), claimOf(1, 2, 1, 65616)}, "02" + "05020000012c" + "0b0401000000020100010050"},
		{[]impl.Message{turnOf(impl.KeyUse, impl.Key{Id: 9}), pingOf(1, 2), askOf(1, 2)}, "03" + "03050209" + "06010000000102" + "06030000000102"},
		{[]impl.Message{turnOf(impl.KeyInstall, impl.Key{Id: 9, Bytes: make([]byte, 16)})}, "01" + "13" + "05010900000000000000000000000000000000"},
	} {
		checkBlock(t, fmt.Sprintf("EncodeMessages of %v", row.list), nil, impl.EncodeMessages(row.list), fromHex(t, row.want))
		checkAllDecoded(t, fromHex(t, row.want), toldMessages(row.list...))
	}
}

func TestListsOfMessagesAreReadBack(t *testing.T) {
	for _, list := range rightLists() {
		got := impl.EncodeMessages(list)
		checkBlock(t, fmt.Sprintf("EncodeMessages of %v", list), nil, got, wantAllPacked(list))
		checkAllDecoded(t, got.Bytes, toldMessages(list...))
		if told := impl.DecodeMessages(got.Bytes).Messages; !impl.SameMessages(told, list) {
			t.Errorf("%v and %v are not the same", told, list)
		}
	}
}

func TestEncodeMessagesHowMany(t *testing.T) {
	for _, count := range []int{0, 1, 11, 12, 13, 14, 256, 257, 300, 5000} {
		for kind := int64(0); kind <= 5; kind++ {
			list := make([]impl.Message, count)
			for i := range list {
				list[i] = rightOfKind(kind)
				list[i].Kind = kind // of the kind 0 all are wrong ones: how many there are is asked ahead of that
			}
			got, want := impl.EncodeMessages(list), int64(impl.OK)
			switch {
			case count > 12:
				want = impl.ErrMany
			case kind == 0 && count > 0:
				want = impl.ErrForm
			}
			checkCode(t, fmt.Sprintf("EncodeMessages of %d of the kind %d", count, kind), got, want)
		}
	}
	// The most that there can be is less than MaxText: nothing is too long.
	list := make([]impl.Message, 12)
	for i := range list {
		list[i] = turnOf(impl.KeyInstall, ringKey(int64(i)+1))
	}
	got := impl.EncodeMessages(list)
	if got.Code != impl.OK || len(got.Bytes) != 1+12*20 || len(got.Bytes) > impl.MaxText {
		t.Errorf("the longest list: %d bytes, code %d", len(got.Bytes), got.Code)
	}
}

func TestEncodeMessagesOfAWrongOne(t *testing.T) {
	form, reach, many := impl.Message{Kind: 2, Node: 1}, pingOf(1, 4), turnOf(impl.KeyInstall, sizedKey(5, 15))
	for _, list := range rightLists() {
		for at := range list {
			for _, wrong := range []impl.Message{form, reach, many, {}, claimOf(0, 0, 3, 0)} {
				spoiled := append([]impl.Message{}, list...)
				spoiled[at] = wrong
				checkCode(t, "EncodeMessages of a wrong one", impl.EncodeMessages(spoiled), wantMessageFault(wrong))
			}
		}
	}
	right := ackOf(1)
	for _, row := range []struct {
		list []impl.Message
		want int64
	}{
		{[]impl.Message{many, reach, form}, impl.ErrMany}, {[]impl.Message{right, many, form}, impl.ErrMany}, {[]impl.Message{reach, form}, impl.ErrRange},
		{[]impl.Message{reach, many, form}, impl.ErrRange}, {[]impl.Message{right, right, form, many}, impl.ErrForm}, {[]impl.Message{form, reach}, impl.ErrForm},
	} {
		checkCode(t, fmt.Sprintf("EncodeMessages of %v", row.list), impl.EncodeMessages(row.list), row.want)
	}
}

func TestDecodeMessagesOfNothing(t *testing.T) {
	checkAllDecoded(t, nil, messagesCode(impl.ErrText))
	checkAllDecoded(t, []byte{}, messagesCode(impl.ErrText))
	checkAllDecoded(t, []byte{0}, toldMessages())
	for count := 1; count < 256; count++ {
		checkAllDecoded(t, []byte{byte(count)}, messagesCode(impl.ErrText))
		checkAllDecoded(t, []byte{0, byte(count)}, messagesCode(impl.ErrText))
	}
	checkAllDecoded(t, []byte{0, 0}, messagesCode(impl.ErrText))
	checkAllDecoded(t, []byte{1, 0}, messagesCode(impl.ErrText))
	checkAllDecoded(t, []byte{2, 0, 3, 5, 2, 1}, messagesCode(impl.ErrText))
}

func TestDecodeMessagesHowManyBytes(t *testing.T) {
	ahead := wantAllPacked([]impl.Message{ackOf(1), pingOf(2, 3)})
	for _, start := range [][]byte{nil, ahead, {1}, {12, 255}, {255, 255}} {
		for _, size := range []int{241, 242, 299, 300, 301, 302, 343, 5000} {
			data := append(append([]byte{}, start...), make([]byte, 5000)...)[:size]
			want := messagesCode(impl.ErrText)
			if size > 300 {
				want = messagesCode(impl.ErrMany)
			}
			checkAllDecoded(t, data, want)
		}
	}
}

func TestDecodeMessagesOfMoreThanTwelve(t *testing.T) {
	// So many would come to no more than MaxText bytes: it is their number that there may not be.
	for _, m := range []impl.Message{turnOf(impl.KeyUse, impl.Key{Id: 1}), ackOf(7), rightOfKind(4), rightOfKind(5)} {
		for count := 1; count <= 14; count++ {
			list := make([]impl.Message, count)
			for i := range list {
				list[i] = m
			}
			want := toldMessages(list...)
			if count > 12 {
				want = messagesCode(impl.ErrText)
			}
			checkAllDecoded(t, wantAllPacked(list), want)
		}
	}
}

func TestDecodeMessagesOfACountThatIsNotSo(t *testing.T) {
	for _, list := range rightLists() {
		right := wantAllPacked(list)
		for count := range 256 {
			data := spoilt(right, 0, right[0]^byte(count))
			want := messagesCode(impl.ErrText)
			if count == len(list) {
				want = toldMessages(list...)
			}
			checkAllDecoded(t, data, want)
		}
	}
}

func TestDecodeMessagesTooFewAndLeft(t *testing.T) {
	for i, list := range rightLists() {
		right := wantAllPacked(list)
		for end := range right {
			checkAllDecoded(t, right[:end], messagesCode(impl.ErrText))
		}
		for _, more := range [][]byte{{0}, {1}, {byte(i)}, right, right[1:], make([]byte, 300-len(right))} {
			if len(more) == 0 || len(more)+len(right) > 300 {
				continue
			}
			data := append(append([]byte{}, right...), more...)
			checkAllDecoded(t, data, messagesCode(impl.ErrText))
		}
	}
}

func TestDecodeMessagesOfEachByteTurned(t *testing.T) {
	for i, list := range rightLists() {
		if i%11 != 0 {
			continue
		}
		right := wantAllPacked(list)
		for at := range right {
			for mask := 1; mask < 256; mask += 1 + i%3 {
				data := spoilt(right, at, byte(mask))
				checkAllDecoded(t, data, wantAllDecoded(data))
			}
		}
	}
}

func TestDecodeMessagesOfAByteMoreOrLess(t *testing.T) {
	for _, list := range rightLists() {
		right := wantAllPacked(list)
		for at := range right {
			less := append(append([]byte{}, right[:at]...), right[at+1:]...)
			more := append(append(append([]byte{}, right[:at]...), right[at]), right[at:]...)
			zero := append(append(append([]byte{}, right[:at]...), 0), right[at:]...)
			for _, data := range [][]byte{less, more, zero} {
				checkAllDecoded(t, data, wantAllDecoded(data))
			}
		}
	}
}
