package tests

import (
	"encoding/binary"
	"fmt"
	"math"
	"slices"
	"testing"

	"loop.example/g00725/impl"
)

// wantRecordBytes are the bytes of a record, a right one or not, of a Node of one digit.
func wantRecordBytes(r impl.Record) []byte {
	out := []byte{0xc0, 0x0c, byte(r.Type >> 8), byte(r.Type), 0, 1, 0, 0, 0, 30, 0}
	if r.Type == 1 {
		return append(out, 4, 10, 0, 0, byte(r.Node))
	}
	return append(out, 10, 0, 0, 0, 0, byte(r.Port>>8), byte(r.Port), 2, 'n', '0'+byte(r.Node), 0)
}

// answerOf has the bytes of an answer, right ones or not.
func answerOf(id int64, mark byte, status byte, questions int64, question []byte, records ...impl.Record) []byte {
	out := []byte{byte(id >> 8), byte(id), mark, status}
	for _, n := range []int64{questions, int64(len(records)), 0, 0} {
		out = binary.BigEndian.AppendUint16(out, uint16(n))
	}
	out = append(out, question...)
	for _, r := range records {
		out = append(out, wantRecordBytes(r)...)
	}
	return out
}

// questionOf is the question of a right query.
func questionOf(kind int64, labels ...string) []byte {
	return wantQueryBytes(queryOf(0, kind, labels...))[12:]
}

// wantStatus is the status by the document's words, and what is looked for.
func wantStatus(data []byte) (status byte, service int64, kind int64) {
	q := wantQuery(data)
	found := wantService(q.Query.Labels)
	switch {
	case q.Code != impl.OK:
		return 1, 0, 0
	case found.Code != impl.OK:
		return 3, 0, 0
	case q.Query.Type != 1 && q.Query.Type != 33:
		return 4, 0, 0
	}
	return 0, found.Value, q.Query.Type
}

// wantAnswer is AnswerQuery by the document's words: from all records down to none.
func wantAnswer(view []impl.Claim, data []byte, most int64) impl.BytesResult {
	switch code := wantViewFault(view); {
	case code != impl.OK:
		return impl.BytesResult{Code: code}
	case most < 60 || most > 300:
		return impl.BytesResult{Code: impl.ErrRange}
	case len(data) < 12:
		return impl.BytesResult{Code: impl.ErrMany}
	}
	id := int64(data[0])*256 + int64(data[1])
	status, service, kind := wantStatus(data)
	if status == 1 {
		return impl.BytesResult{Bytes: answerOf(id, 132, 1, 0, nil)}
	}
	var records []impl.Record
	if status == 0 {
		records = wantRecords(view, service, kind).Records
	}
	for count := len(records); count >= 0; count-- {
		mark := byte(132)
		if count < len(records) {
			mark = 134
		}
		if out := answerOf(id, mark, status, 1, data[12:], records[:count]...); int64(len(out)) <= most {
			return impl.BytesResult{Bytes: out}
		}
	}
	return impl.BytesResult{Code: impl.ErrMany}
}

func checkAnswer(t *testing.T, view []impl.Claim, data []byte, most int64, want impl.BytesResult) {
	t.Helper()
	got := impl.AnswerQuery(view, data, most)
	if got.Code != want.Code || string(got.Bytes) != string(want.Bytes) {
		t.Errorf("AnswerQuery of %v, %x and %d: %d %x, want %d %x", view, data, most, got.Code, got.Bytes, want.Code, want.Bytes)
	}
	if words := wantAnswer(view, data, most); words.Code != want.Code || string(words.Bytes) != string(want.Bytes) {
		t.Errorf("by the document's words it is %d %x of %v, %x and %d", words.Code, words.Bytes, view, data, most)
	}
}

// offering is a view of these nodes, each of which offers the service by a port of its own.
func offering(service int64, nodes ...int64) []impl.Claim {
	var out []impl.Claim
	for _, node := range nodes {
		out = append(out, aClaim(node, 3, 0, service*65536+[]int64{0, 80, 258, 65535}[node]))
	}
	return out
}

// askedData are queries of each status.
func askedData() [][]byte {
	out := [][]byte{make([]byte, 12), make([]byte, 300), make([]byte, 301), make([]byte, 5000), mixedBytes(12, 3), mixedBytes(40, 5)}
	for i, q := range rightQueries() {
		right := wantQueryBytes(q)
		out = append(out, right)
		if i%9 == 0 {
			out = append(out, right[:len(right)-1], append(slices.Clone(right), 0), spoilt(right, 2+i%10, 1), spoilt(right, len(right)-1, 2), right[:12])
		}
	}
	return out
}

func TestAnswerQueryExamples(t *testing.T) {
	view := []impl.Claim{aClaim(0, 1, 0, 65616), aClaim(1, 1, 1, 65617), aClaim(2, 1, 0, 65618)}
	s1 := "027331056c6f63616c00"
	srv0, srv2 := "c00c0021000100"+"00001e000a000000000050026e3000", "c00c0021000100"+"00001e000a000000000052026e3200"
	a0, a2 := "c00c0001000100"+"00001e00040a000000", "c00c0001000100"+"00001e00040a000002"
	for _, row := range []struct {
		q    impl.Query
		most int64
		want string
	}{
		{queryOf(258, 33, "s1", "local"), 300, "01028400" + "0001000200000000" + s1 + "00210001" + srv0 + srv2},
		{queryOf(258, 33, "s1", "local"), 70, "01028400" + "0001000200000000" + s1 + "00210001" + srv0 + srv2},
		{queryOf(258, 33, "s1", "local"), 69, "01028600" + "0001000100000000" + s1 + "00210001" + srv0},
		{queryOf(258, 33, "s1", "local"), 60, "01028600" + "0001000100000000" + s1 + "00210001" + srv0},
		{queryOf(65535, 1, "s1", "local"), 60, "ffff8400" + "0001000200000000" + s1 + "00010001" + a0 + a2},
		{queryOf(1, 33, "s2", "local"), 60, "00018400" + "0001000000000000" + "027332056c6f63616c00" + "00210001"},
		{queryOf(1, 33, "s", "local"), 60, "00018403" + "0001000000000000" + "0173056c6f63616c00" + "00210001"},
		{queryOf(1, 2), 60, "00018403" + "0001000000000000" + "00" + "00020001"},
		{queryOf(256, 2, "s1", "local"), 60, "01008404" + "0001000000000000" + s1 + "00020001"},
	} {
		checkAnswer(t, view, wantQueryBytes(row.q), row.most, impl.BytesResult{Bytes: fromHex(t, row.want)})
	}
	checkAnswer(t, view, fromHex(t, "ab01"+"00000000000000000000"), 60, impl.BytesResult{Bytes: fromHex(t, "ab018401"+"0000000000000000")})
	checkAnswer(t, view, append(wantQueryBytes(queryOf(258, 33, "s1", "local")), 0), 300, impl.BytesResult{Bytes: fromHex(t, "01028401"+"0000000000000000")})
}

func TestAnswerQueryOfEachStatus(t *testing.T) {
	statuses := map[byte]int{}
	for i, data := range askedData() {
		for _, view := range [][]impl.Claim{nil, offering(1, 0, 1, 2, 3), offering(12, 1, 3), offering(0, 0, 2, 3), offering(99, 1, 2), claimsBy(i%16, int64(i))} {
			for _, most := range []int64{60, 61, 100, 143, 299, 300} {
				want := wantAnswer(view, data, most)
				checkAnswer(t, view, data, most, want)
				if want.Code == impl.OK {
					statuses[want.Bytes[3]]++
				}
			}
		}
	}
	if len(statuses) != 4 || statuses[0] == 0 || statuses[1] == 0 || statuses[3] == 0 || statuses[4] == 0 {
		t.Errorf("the statuses are %v", statuses)
	}
	// What is no service ahead of another Type; and each of both alone.
	for _, kind := range []int64{0, 1, 2, 16, 32, 33, 34, 255, 257, 289, 65535} {
		isType := kind == 1 || kind == 33
		got := impl.AnswerQuery(nil, wantQueryBytes(queryOf(7, kind, "s1", "lokal")), 300)
		if got.Code != impl.OK || got.Bytes[3] != 3 || got.Bytes[2] != 132 {
			t.Errorf("what is no service of the Type %d: %v", kind, got)
		}
		got = impl.AnswerQuery(offering(1, 0, 1, 2, 3), wantQueryBytes(queryOf(7, kind, "s1", "local")), 300)
		if got.Code != impl.OK || got.Bytes[2] != 132 || got.Bytes[3] != byte(either(isType, 0, 4)) || got.Bytes[7] != byte(either(isType, 4, 0)) {
			t.Errorf("a service of the Type %d: %v", kind, got)
		}
	}
}

func TestAnswerQueryHasRoom(t *testing.T) {
	nodes := [][]int64{nil, {0}, {3}, {0, 2}, {1, 2, 3}, {0, 1, 2, 3}}
	for _, service := range []int64{0, 1, 9, 10, 12, 99} {
		labels := []string{fmt.Sprint("s", service), "local"}
		for _, kind := range []int64{1, 33} {
			data := wantQueryBytes(queryOf(771, kind, labels...))
			size := map[int64]int64{1: 16, 33: 22}[kind]
			for _, some := range nodes {
				view := offering(service, some...)
				records := wantRecords(view, service, kind).Records
				for most := int64(60); most <= 300; most++ {
					count := min(int64(len(some)), (most-int64(len(data)))/size)
					mark := byte(132)
					if count < int64(len(some)) {
						mark = 134
					}
					checkAnswer(t, view, data, most, impl.BytesResult{Bytes: answerOf(771, mark, 0, 1, data[12:], records[:count]...)})
				}
			}
		}
	}
}

func TestAnswerQueryOfNodesOfEachStatus(t *testing.T) {
	for _, service := range []int64{0, 1, 12, 99} {
		for i, view := range serviceViews(service) {
			for _, asked := range []int64{service, 1} {
				data := wantQueryBytes(queryOf(int64(i)*257, []int64{1, 33}[i%2], fmt.Sprint("s", asked), "local"))
				for _, most := range []int64{60, 75, 92, 93, 300} {
					checkAnswer(t, view, data, most, wantAnswer(view, data, most))
				}
			}
		}
	}
}

func TestAnswerQueryOfALongQuestion(t *testing.T) {
	// Even without a record there is no room: there are none of what is no service.
	for count := range 7 {
		for size := 1; size <= 20; size++ {
			data := wantQueryBytes(queryOf(9, 33, someLabels(count, size)...))
			for most := int64(60); most <= 300; most++ {
				want := impl.BytesResult{Bytes: answerOf(9, 132, 3, 1, data[12:])}
				if int64(len(data)) > most {
					want = impl.BytesResult{Code: impl.ErrMany}
				}
				checkAnswer(t, offering(1, 0, 1), data, most, want)
			}
		}
	}
	// Data that are no query have no question in their answer, however long they are.
	for _, size := range []int{12, 60, 61, 299, 300, 301, 5000} {
		checkAnswer(t, nil, make([]byte, size), 60, impl.BytesResult{Bytes: answerOf(0, 132, 1, 0, nil)})
	}
}

func TestAnswerQueryBounds(t *testing.T) {
	data := wantQueryBytes(queryOf(258, 33, "s1", "local"))
	view := offering(1, 0, 1, 2, 3)
	for _, most := range append(boundsOf(60, 300), 12, 30, 256, 316, 1<<32+100) {
		for _, d := range [][]byte{data, make([]byte, 12), data[:11], nil, wantQueryBytes(queryOf(1, 1, someLabels(6, 20)...))} {
			for _, v := range [][]impl.Claim{view, nil} {
				want := wantAnswer(v, d, most)
				checkAnswer(t, v, d, most, want)
				if !isBetween(60, most, 300) && want.Code != impl.ErrRange {
					t.Errorf("most is %d: %v", most, want)
				}
			}
		}
	}
	for size := range 20 {
		short := mixedBytes(size, size)
		want := impl.BytesResult{Code: impl.ErrMany}
		if size >= 12 {
			want = impl.BytesResult{Bytes: answerOf(int64(short[0])<<8+int64(short[1]), 132, 1, 0, nil)}
		}
		checkAnswer(t, view, short, 100, want)
		// ErrRange ahead of ErrMany.
		for _, most := range []int64{59, 301, 0, -1, math.MinInt64, math.MaxInt64} {
			checkAnswer(t, view, short, most, impl.BytesResult{Code: impl.ErrRange})
		}
	}
}

func TestAnswerQueryOfWrongViews(t *testing.T) {
	data := wantQueryBytes(queryOf(258, 33, "s1", "local"))
	for _, view := range wrongViews() {
		for _, most := range []int64{60, 300, 59, 301, math.MinInt64, math.MaxInt64} {
			// The fault of the view ahead of all others, and of any status.
			for _, d := range [][]byte{data, data[:11], nil, data[:12], wantQueryBytes(queryOf(1, 7)), wantQueryBytes(queryOf(1, 33, someLabels(6, 20)...))} {
				checkAnswer(t, view, d, most, impl.BytesResult{Code: wantViewFault(view)})
			}
		}
	}
}

func TestAnswerQueryOfEachByteTurned(t *testing.T) {
	view := append(offering(1, 0, 1), offering(3, 2, 3)...)
	for _, q := range []impl.Query{queryOf(258, 33, "s1", "local"), queryOf(258, 1, "s12", "local"), queryOf(0, 1, "a")} {
		right := wantQueryBytes(q)
		for at := range right {
			for mask := 1; mask < 256; mask++ {
				data := spoilt(right, at, byte(mask))
				checkAnswer(t, view, data, 60, wantAnswer(view, data, 60))
			}
		}
	}
}
