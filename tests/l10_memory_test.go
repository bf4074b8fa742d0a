package tests

import (
	"fmt"
	"slices"
	"testing"

	"loop.example/g00725/impl"
)

// guardedLabels lays a list in the midst of a longer one, so that a write behind its end or ahead of its start is seen.
func guardedLabels(labels []string) (whole []string, piece []string) {
	for i := range len(labels) + 14 {
		whole = append(whole, fmt.Sprint("guard", i))
	}
	copy(whole[7:], labels)
	return whole, whole[7 : 7+len(labels)]
}

// scribbleLabels writes over all that an answer can reach, the room behind its end, too.
func scribbleLabels(answer []string) {
	answer = answer[:cap(answer)]
	for i := range answer {
		answer[i] += "?"
	}
}

func scribbleRecords(answer []impl.Record) {
	answer = answer[:cap(answer)]
	for i, r := range answer {
		answer[i] = aRecord(-r.Type-1, -r.Node-1, -r.Port-1)
	}
}

// checkLabelsMemory asks twice, and writes over one answer and over the labels: nothing else may turn by that.
func checkLabelsMemory(t *testing.T, name string, labels []string, ask func(labels []string) impl.BytesResult) {
	t.Helper()
	whole, piece := guardedLabels(labels)
	before := slices.Clone(whole)
	first, second := ask(piece), ask(piece)
	want := string(second.Bytes)
	if first.Code != second.Code || string(first.Bytes) != want {
		t.Errorf("%s: asked again it is another answer", name)
	}
	scribble(first.Bytes)
	if !slices.Equal(whole, before) {
		t.Errorf("%s: an argument is changed", name)
	}
	scribbleLabels(whole)
	if string(second.Bytes) != want {
		t.Errorf("%s: the answer turns with an argument, or with another answer", name)
	}
}

// checkReadBytes is the same of what is read from bytes: its text, and what writes over all that it has.
func checkReadBytes(t *testing.T, name string, data []byte, ask func(data []byte) (text func() string, scribble func())) {
	t.Helper()
	whole, piece := guarded(data)
	before := string(whole)
	first, scribbleFirst := ask(piece)
	second, _ := ask(piece)
	want := second()
	if first() != want {
		t.Errorf("%s: asked again it is another answer", name)
	}
	scribbleFirst()
	if string(whole) != before {
		t.Errorf("%s: an argument is changed, or shared", name)
	}
	if second() != want {
		t.Errorf("%s: two answers share memory", name)
	}
	scribble(whole)
	if second() != want {
		t.Errorf("%s: the answer turns with an argument", name)
	}
}

func ofName(got impl.NameResult) (func() string, func()) {
	return func() string { return nameText(got) }, func() { scribbleLabels(got.Name.Labels) }
}

func ofQuery(got impl.QueryResult) (func() string, func()) {
	return func() string { return queryText(got) }, func() { scribbleLabels(got.Query.Labels) }
}

func ofAnswer(got impl.AnswerResult) (func() string, func()) {
	return func() string { return answerText(got) }, func() { scribbleRecords(got.Records) }
}

func ofRecords(got impl.RecordsResult) (func() string, func()) {
	return func() string { return recordsText(got) }, func() { scribbleRecords(got.Records) }
}

func TestNamingLeavesItsArguments(t *testing.T) {
	for _, labels := range append(rightNames(), wrongNames()...) {
		checkLabelsMemory(t, fmt.Sprintf("EncodeName of %q", labels), labels, impl.EncodeName)
		for _, id := range []int64{0, 258, -1} {
			checkLabelsMemory(t, fmt.Sprintf("PackQuery of %q", labels), labels, func(labels []string) impl.BytesResult {
				return impl.PackQuery(queryOf(id, 33, labels...))
			})
		}
		checkLabelsMemory(t, fmt.Sprintf("ServiceOf %q", labels), labels, func(labels []string) impl.BytesResult {
			got := impl.ServiceOf(labels)
			return impl.BytesResult{Code: got.Code, Bytes: []byte(fmt.Sprint(got.Value))}
		})
	}
}

func TestReadingNamesLeavesItsArguments(t *testing.T) {
	chain, _ := jumpsInARow(5, "ab")
	for i, data := range append(askedData(), rightAnswers()...) {
		if len(data) > 400 {
			continue
		}
		checkReadBytes(t, fmt.Sprintf("ReadQuery of %x", data), data, func(data []byte) (func() string, func()) { return ofQuery(impl.ReadQuery(data)) })
		checkReadBytes(t, fmt.Sprintf("ReadAnswer of %x", data), data, func(data []byte) (func() string, func()) { return ofAnswer(impl.ReadAnswer(data)) })
		for _, at := range []int{-1, 0, 12, i % 60, len(data)} {
			checkReadBytes(t, fmt.Sprintf("ReadName of %x from %d on", data, at), data, func(data []byte) (func() string, func()) {
				return ofName(impl.ReadName(data, int64(at)))
			})
		}
	}
	for at := range chain {
		checkReadBytes(t, fmt.Sprintf("ReadName of %x from %d on", chain, at), chain, func(data []byte) (func() string, func()) {
			return ofName(impl.ReadName(data, int64(at)))
		})
	}
}

func TestAnsweringLeavesItsArguments(t *testing.T) {
	asked := askedData()
	for i, view := range slices.Concat(serviceViews(1), rightViews(), wrongViews()) {
		for _, kind := range []int64{1, 33, 2} {
			checkViews(t, fmt.Sprintf("RecordsFor %v", view), view, nil, func(view []impl.Claim, _ []impl.Claim) (func() string, func()) {
				return ofRecords(impl.RecordsFor(view, 1, kind))
			})
		}
		for _, data := range [][]byte{wantQueryBytes(queryOf(258, 33, "s1", "local")), wantQueryBytes(queryOf(258, 1, "s1", "local")), asked[i%len(asked)], mixedBytes(i%14, i)} {
			for _, most := range []int64{60, 90, 300, 301} {
				checkMemory(t, fmt.Sprintf("AnswerQuery of %v and %x", view, data), [][]byte{data}, func(lists [][]byte) impl.BytesResult {
					return impl.AnswerQuery(view, lists[0], most)
				})
				checkViews(t, fmt.Sprintf("AnswerQuery of %v and %x", view, data), view, nil, func(view []impl.Claim, _ []impl.Claim) (func() string, func()) {
					got := impl.AnswerQuery(view, data, most)
					return func() string { return fmt.Sprint(got) }, func() { scribble(got.Bytes) }
				})
			}
		}
	}
}

func TestRecordsThatAreAskedStay(t *testing.T) {
	for _, a := range differentRecords() {
		for _, b := range differentRecords() {
			beforeA, beforeB := slices.Clone(a), slices.Clone(b)
			impl.SameRecords(a, b)
			impl.SameRecords(a, a)
			if !slices.Equal(a, beforeA) || !slices.Equal(b, beforeB) {
				t.Fatalf("SameRecords of %v and %v changes an argument", a, b)
			}
		}
	}
}

func TestNamesHaveNoRoomBehindTheirEnd(t *testing.T) {
	// What lies behind the end of a list is no part of it: it is neither told nor read.
	labels := []string{"s1", "local", "A", "", "b", "c", "d", "e"}
	checkBlock(t, "EncodeName of a shorter list", nil, impl.EncodeName(labels[:2]), wantNameBytes(labels[:2]))
	checkService(t, labels[:2], impl.IntResult{Value: 1})
	checkService(t, labels[:1], impl.IntResult{Code: impl.ErrNone})
	data := wantQueryBytes(queryOf(258, 33, "s1", "local"))
	for end := range data {
		checkQuery(t, data[:end], queryCode(either(end < 12, impl.ErrMany, impl.ErrForm)))
		if end < 22 {
			checkName(t, data[:end], 12, nameCode(either(end <= 12, impl.ErrRange, impl.ErrText)))
		}
	}
	view := offering(1, 0, 1, 2, 3)
	checkRecords(t, "RecordsFor a shorter list", impl.RecordsFor(view[:2], 1, 33), toldRecords(aRecord(33, 0, 0), aRecord(33, 1, 80)))
	checkAnswer(t, view[:1], data, 60, impl.BytesResult{Bytes: answerOf(258, 132, 0, 1, data[12:], aRecord(33, 0, 0))})
	long := append(slices.Clone(data), 0, 1, 2)
	checkAnswer(t, view[:0], long[:len(data)], 60, impl.BytesResult{Bytes: answerOf(258, 132, 0, 1, data[12:])})
	if string(long[len(data):]) != "\x00\x01\x02" {
		t.Errorf("what lies behind the end of data is changed: %x", long)
	}
}

func TestNamesAnswerNothingBesideACode(t *testing.T) {
	checkZero := func(name string, code int64, isZero bool) {
		t.Helper()
		if code != impl.OK && !isZero {
			t.Errorf("%s: beside the code %d there is more", name, code)
		}
	}
	for i, data := range append(askedData(), rightAnswers()...) {
		for _, d := range [][]byte{data, data[:len(data)-1], data[1:], spoilt(data, i%len(data), 64)} {
			for at := int64(-1); at < 20; at++ {
				name := impl.ReadName(d, at)
				checkZero("ReadName", name.Code, len(name.Name.Labels) == 0 && name.Name.Next == 0)
			}
			query, answer := impl.ReadQuery(d), impl.ReadAnswer(d)
			checkZero("ReadQuery", query.Code, queryText(query) == queryText(queryCode(query.Code)))
			checkZero("ReadAnswer", answer.Code, answerText(answer) == answerText(answerCode(answer.Code)))
			for _, most := range []int64{59, 60, 120} {
				made := impl.AnswerQuery(offering(1, 0, 3), d, most)
				checkZero("AnswerQuery", made.Code, len(made.Bytes) == 0)
			}
		}
	}
	for i, labels := range append(rightNames(), wrongNames()...) {
		packed, query, service := impl.EncodeName(labels), impl.PackQuery(queryOf(int64(i%3)*65536-65536, 1, labels...)), impl.ServiceOf(labels)
		checkZero("EncodeName", packed.Code, len(packed.Bytes) == 0)
		checkZero("PackQuery", query.Code, len(query.Bytes) == 0)
		checkZero("ServiceOf", service.Code, service.Value == 0)
	}
	for _, view := range append(serviceViews(1), wrongViews()...) {
		for _, service := range []int64{1, -1, 100} {
			got := impl.RecordsFor(view, service, 33)
			checkZero("RecordsFor", got.Code, len(got.Records) == 0)
		}
	}
}

// stageTenArguments are what each function of the chapter is asked of, the place i of a list at a time.
type stageTenArguments struct {
	names   [][]string
	data    [][]byte
	views   [][]impl.Claim
	records [][]impl.Record
}

func (a stageTenArguments) answers(i int) []any {
	labels, data, view := a.names[i%len(a.names)], a.data[i%len(a.data)], a.views[i*7%len(a.views)]
	records, other := a.records[i%len(a.records)], a.records[i*7%len(a.records)]
	kind := []int64{1, 33, 33, 2}[i%4]
	return []any{
		fmt.Sprint(impl.EncodeName(labels)), nameText(impl.ReadName(data, int64(i%30-1))), fmt.Sprint(impl.PackQuery(queryOf(int64(i*37), kind, labels...))), queryText(impl.ReadQuery(data)),
		impl.ServiceOf(labels), recordsText(impl.RecordsFor(view, int64(i%4), kind)), fmt.Sprint(impl.AnswerQuery(view, data, int64(50+i%260))), answerText(impl.ReadAnswer(data)),
		impl.SameRecords(records, other), impl.SameRecords(records, records),
	}
}

func TestNamesHangOnArgumentsAlone(t *testing.T) {
	const count = 3000
	a := stageTenArguments{
		names: append(rightNames(), wrongNames()...), data: append(askedData(), rightAnswers()...),
		views: slices.Concat(serviceViews(1), wrongViews(), rightViews()), records: differentRecords(),
	}
	var first [count][]any
	for i := range count {
		first[i] = a.answers(i)
	}
	for i := count - 1; i >= 0; i-- {
		for k, got := range a.answers(i) {
			if got != first[i][k] {
				t.Errorf("answer %d of the arguments %d: %v, and at first %v", k, i, got, first[i][k])
			}
		}
	}
}
