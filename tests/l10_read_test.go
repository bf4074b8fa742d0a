package tests

import (
	"fmt"
	"slices"
	"testing"

	"loop.example/g00725/impl"
)

func answerCode(code int64) impl.AnswerResult {
	return impl.AnswerResult{Code: code}
}

// answerText tells all fields; an empty list and nil are told alike.
func answerText(got impl.AnswerResult) string {
	return fmt.Sprint(got.Code, got.Id, got.Status, got.Cut, got.Records)
}

func checkAnswerRead(t *testing.T, data []byte, want impl.AnswerResult) {
	t.Helper()
	if got := impl.ReadAnswer(data); answerText(got) != answerText(want) {
		t.Errorf("ReadAnswer of %x: %v, want %v", data, got, want)
	}
	if words := wantAnswerRead(data); answerText(words) != answerText(want) {
		t.Errorf("by the document's words it is %v of %x, not %v", words, data, want)
	}
}

// wantQuestion is the question that stands at the place 12, of how many bytes, and what its query asks for.
func wantQuestion(data []byte) (size int, q impl.Query, ok bool) {
	for size := 5; 12+size <= len(data); size++ {
		if data[11+size] != 1 {
			continue // its last byte
		}
		query := append([]byte{data[0], data[1], 1, 0, 0, 1, 0, 0, 0, 0, 0, 0}, data[12:12+size]...)
		if got := wantQuery(query); got.Code == impl.OK {
			return size, got.Query, true
		}
	}
	return 0, impl.Query{}, false
}

// wantRecordsRead are the records that data are, if they are some of this kind whose Nodes rise.
func wantRecordsRead(data []byte, kind int64) (records []impl.Record, ok bool) {
	size := map[int64]int{1: 16, 33: 22}[kind]
	for len(data) > 0 {
		if len(data) < size {
			return nil, false
		}
		r := impl.Record{Type: kind, Node: int64(data[15])}
		if kind == 33 {
			r.Node, r.Port = int64(data[20])-'0', int64(data[16])*256+int64(data[17])
		}
		if string(wantRecordBytes(r)) != string(data[:size]) || r.Node < 0 || r.Node > 3 || len(records) > 0 && records[len(records)-1].Node >= r.Node {
			return nil, false
		}
		records, data = append(records, r), data[size:]
	}
	return records, true
}

// canBeCut: there is one more node behind the last one, and with its record it is more than the least of what most can be.
func canBeCut(size int, kind int64, records []impl.Record) bool {
	behind := append([]impl.Record{{Node: -1}}, records...)[len(records)].Node + 1
	more := len(wantRecordBytes(impl.Record{Type: kind}))
	return behind <= 3 && 12+size+(len(records)+1)*more > 60
}

// wantAnswerRead is ReadAnswer by the document's words: piece by piece.
func wantAnswerRead(data []byte) impl.AnswerResult {
	if len(data) < 12 || len(data) > 300 {
		return answerCode(impl.ErrMany)
	}
	none := answerCode(impl.ErrText)
	told := impl.AnswerResult{Id: int64(data[0])*256 + int64(data[1]), Status: int64(data[3]), Cut: data[2] == 134}
	if told.Status == 1 {
		if string(data[2:]) != "\x84\x01\x00\x00\x00\x00\x00\x00\x00\x00" {
			return none
		}
		return told
	}
	size, q, ok := wantQuestion(data)
	if !ok || data[2] != 132 && data[2] != 134 {
		return none
	}
	status, _, kind := wantStatus(wantQueryBytes(q))
	if int64(status) != told.Status {
		return none
	}
	rest := data[12+size:]
	if status == 0 {
		if told.Records, ok = wantRecordsRead(rest, kind); !ok {
			return none
		}
		rest = nil
	}
	if len(rest) > 0 || string(data[4:12]) != string([]byte{0, 1, 0, byte(len(told.Records)), 0, 0, 0, 0}) {
		return none
	}
	if told.Cut && (status != 0 || !canBeCut(size, kind, told.Records)) {
		return none
	}
	return told
}

// toldAnswer is what is read of the answer to a right query by this view.
func toldAnswer(t *testing.T, view []impl.Claim, data []byte, most int64) impl.AnswerResult {
	t.Helper()
	status, service, kind := wantStatus(data)
	told := impl.AnswerResult{Id: int64(data[0])*256 + int64(data[1]), Status: int64(status)}
	if status == 0 {
		told.Records = wantRecords(view, service, kind).Records
		count := min(int64(len(told.Records)), (most-int64(len(data)))/int64(len(wantRecordBytes(impl.Record{Type: kind}))))
		told.Cut, told.Records = count < int64(len(told.Records)), told.Records[:count]
	}
	return told
}

// checkToldBack asks, answers and reads.
func checkToldBack(t *testing.T, view []impl.Claim, data []byte, most int64) {
	t.Helper()
	if made := impl.AnswerQuery(view, data, most); made.Code == impl.OK {
		checkAnswerRead(t, made.Bytes, toldAnswer(t, view, data, most))
	}
}

func TestAnswersAreReadBack(t *testing.T) {
	for i, data := range askedData() {
		for _, view := range [][]impl.Claim{nil, offering(1, 0, 1, 2, 3), offering(12, 1, 3), offering(0, 0, 2, 3), offering(99, 1, 2), claimsBy(i%16, int64(i))} {
			for _, most := range []int64{60, 61, 100, 143, 300} {
				checkToldBack(t, view, data, most)
			}
		}
	}
	for _, service := range []int64{0, 1, 12, 99} {
		for i, view := range serviceViews(service) {
			for _, kind := range []int64{1, 33} {
				data := wantQueryBytes(queryOf(int64(i)*257, kind, fmt.Sprint("s", service), "local"))
				for _, most := range []int64{60, 75, 92, 93, 300} {
					checkToldBack(t, view, data, most)
				}
			}
		}
	}
}

func TestAnswersTellTheFirstOnes(t *testing.T) {
	for set := range 16 {
		var nodes []int64
		for node := range int64(4) {
			if set>>node&1 == 1 {
				nodes = append(nodes, node)
			}
		}
		for _, service := range []int64{1, 12} {
			view := offering(service, nodes...)
			for _, kind := range []int64{1, 33} {
				all := impl.RecordsFor(view, service, kind).Records
				query := impl.PackQuery(queryOf(700, kind, fmt.Sprint("s", service), "local")).Bytes
				for most := int64(60); most <= 300; most++ {
					got := impl.ReadAnswer(impl.AnswerQuery(view, query, most).Bytes)
					if got.Code != impl.OK || got.Id != 700 || got.Status != 0 || got.Cut != (len(got.Records) < len(all)) || !impl.SameRecords(got.Records, all[:len(got.Records)]) {
						t.Fatalf("the answer of %v by %d bytes: %v", view, most, got)
					}
				}
			}
		}
	}
}

func TestReadAnswerExamples(t *testing.T) {
	s1 := "027331056c6f63616c00"
	srv0, srv2 := "c00c0021000100"+"00001e000a000000000050026e3000", "c00c0021000100"+"00001e000a00000000ffff026e3200"
	a1, a3 := "c00c0001000100"+"00001e00040a000001", "c00c0001000100"+"00001e00040a000003"
	for _, row := range []struct {
		text string
		want impl.AnswerResult
	}{
		{"01028400" + "0001000200000000" + s1 + "00210001" + srv0 + srv2, impl.AnswerResult{Id: 258, Records: []impl.Record{aRecord(33, 0, 80), aRecord(33, 2, 65535)}}},
		{"01028600" + "0001000100000000" + s1 + "00210001" + srv0, impl.AnswerResult{Id: 258, Cut: true, Records: []impl.Record{aRecord(33, 0, 80)}}},
		{"01028400" + "0001000100000000" + s1 + "00210001" + srv0, impl.AnswerResult{Id: 258, Records: []impl.Record{aRecord(33, 0, 80)}}},
		{"ffff8400" + "0001000200000000" + s1 + "00010001" + a1 + a3, impl.AnswerResult{Id: 65535, Records: []impl.Record{aRecord(1, 1, 0), aRecord(1, 3, 0)}}},
		{"00008400" + "0001000000000000" + s1 + "00210001", impl.AnswerResult{}},
		{"00018401" + "0000000000000000", impl.AnswerResult{Id: 1, Status: 1}},
		{"00018403" + "0001000000000000" + "00" + "00020001", impl.AnswerResult{Id: 1, Status: 3}},
		{"01008404" + "0001000000000000" + s1 + "00020001", impl.AnswerResult{Id: 256, Status: 4}},
		// Both Types in one answer, another one than was asked for, and Nodes that do not rise, or are alike.
		{"01028400" + "0001000200000000" + s1 + "00210001" + srv0 + a3, answerCode(impl.ErrText)}, {"01028400" + "0001000200000000" + s1 + "00010001" + a1 + srv2, answerCode(impl.ErrText)},
		{"01028400" + "0001000100000000" + s1 + "00210001" + a1, answerCode(impl.ErrText)}, {"01028400" + "0001000100000000" + s1 + "00010001" + srv0, answerCode(impl.ErrText)},
		{"01028400" + "0001000200000000" + s1 + "00210001" + srv2 + srv0, answerCode(impl.ErrText)}, {"01028400" + "0001000200000000" + s1 + "00210001" + srv0 + srv0, answerCode(impl.ErrText)},
		{"01028400" + "0001000200000000" + s1 + "00010001" + a3 + a1, answerCode(impl.ErrText)}, {"01028400" + "0001000200000000" + s1 + "00010001" + a1 + a1, answerCode(impl.ErrText)},
		// How many there are is not so.
		{"01028400" + "0001000100000000" + s1 + "00210001" + srv0 + srv2, answerCode(impl.ErrText)}, {"01028400" + "0001000300000000" + s1 + "00210001" + srv0 + srv2, answerCode(impl.ErrText)},
		{"01028400" + "0001010200000000" + s1 + "00210001" + srv0 + srv2, answerCode(impl.ErrText)}, {"01028400" + "0000000000000000" + s1 + "00210001", answerCode(impl.ErrText)},
		{"01028400" + "0001000000010000" + s1 + "00210001", answerCode(impl.ErrText)}, {"01028400" + "0001000000000001" + s1 + "00210001", answerCode(impl.ErrText)},
		// Another status than the question has.
		{"00018401" + "0001000000000000" + s1 + "00210001", answerCode(impl.ErrText)}, {"00018403" + "0001000000000000" + s1 + "00210001", answerCode(impl.ErrText)},
		{"00018404" + "0001000000000000" + s1 + "00210001", answerCode(impl.ErrText)}, {"00018402" + "0001000000000000" + s1 + "00210001", answerCode(impl.ErrText)},
		{"00018400" + "0001000000000000" + s1 + "00020001", answerCode(impl.ErrText)}, {"00018403" + "0001000000000000" + s1 + "00020001", answerCode(impl.ErrText)},
		{"00018404" + "0001000000000000" + "00" + "00020001", answerCode(impl.ErrText)}, {"00018400" + "0001000000000000" + "00" + "00010001", answerCode(impl.ErrText)},
		{"00018400" + "0000000000000000", answerCode(impl.ErrText)}, {"00018403" + "0000000000000000", answerCode(impl.ErrText)}, {"00018601" + "0000000000000000", answerCode(impl.ErrText)},
		{"00018401" + "0001000000000000", answerCode(impl.ErrText)}, {"00018405" + "0000000000000000", answerCode(impl.ErrText)}, {"00010100" + "0001000000000000", answerCode(impl.ErrText)},
		// What is no question.
		{"01028400" + "0001000000000000" + "c001" + "00210001", answerCode(impl.ErrText)}, {"01008403" + "0001000000000000" + "c001" + "00210001", answerCode(impl.ErrText)},
		{"01028403" + "0001000000000000" + "0141" + "0000210001", answerCode(impl.ErrText)}, {"01028403" + "0001000000000000" + "00" + "00210002", answerCode(impl.ErrText)},
		{"01028403" + "0001000000000000" + "00" + "002100", answerCode(impl.ErrText)}, {"01028403" + "0001000000000000" + "00" + "0021000100", answerCode(impl.ErrText)},
	} {
		checkAnswerRead(t, fromHex(t, row.text), row.want)
	}
}

func TestReadAnswerOfNodesThatNoViewHas(t *testing.T) {
	for node := range 256 {
		for _, ahead := range [][]int64{nil, {0}, {1, 2}} {
			for _, kind := range []int64{1, 33} {
				var records []impl.Record
				for _, n := range append(ahead, 0) {
					records = append(records, aRecord(kind, n, 0))
				}
				data := answerOf(5, 132, 0, 1, questionOf(kind, "s1", "local"), records...)
				// The byte that tells the Node: the last one, or the digit ahead of the byte 0.
				at := len(data) - int(either(kind == 1, 1, 2))
				data[at] = byte(node)
				number := int64(node) - either(kind == 1, 0, '0')
				want := answerCode(impl.ErrText)
				if isBetween(int64(len(ahead)), number, 3) && (len(ahead) < 2 || number == 3) {
					records[len(ahead)].Node = number
					want = impl.AnswerResult{Id: 5, Records: records}
				}
				checkAnswerRead(t, data, want)
			}
		}
	}
}

// madeBy tells what can be made of these nodes by any view of so many of them and any most: by all of these.
func madeBy(service int64, kind int64) map[string]bool {
	made := map[string]bool{}
	query := wantQueryBytes(queryOf(77, kind, fmt.Sprint("s", service), "local"))
	for set := range 16 {
		var view []impl.Claim
		for node := range int64(4) {
			if set>>node&1 == 1 {
				view = append(view, aClaim(node, 1, 0, service*65536))
			}
		}
		for most := int64(60); most <= 300; most++ {
			made[string(impl.AnswerQuery(view, query, most).Bytes)] = true
		}
	}
	return made
}

func TestReadAnswerOfWhatIsCut(t *testing.T) {
	// It is cut, if there is a view by which it can be, and a most.
	for _, service := range []int64{0, 9, 10, 99} {
		for _, kind := range []int64{1, 33} {
			made := madeBy(service, kind)
			for set := range 16 {
				var records []impl.Record
				for node := range int64(4) {
					if set>>node&1 == 1 {
						records = append(records, aRecord(kind, node, 0))
					}
				}
				for _, mark := range []byte{132, 134, 133, 135, 4, 6, 128, 130, 0} {
					data := answerOf(77, mark, 0, 1, questionOf(kind, fmt.Sprint("s", service), "local"), records...)
					want := answerCode(impl.ErrText)
					if made[string(data)] {
						want = impl.AnswerResult{Id: 77, Cut: mark == 134, Records: records}
					}
					checkAnswerRead(t, data, want)
				}
			}
		}
	}
	// No other status is cut.
	for _, question := range [][]byte{questionOf(33, "s", "local"), questionOf(2, "s1", "local"), questionOf(1, someLabels(6, 20)...), nil} {
		for _, status := range []byte{0, 1, 3, 4} {
			checkAnswerRead(t, answerOf(77, 134, status, either(status == 1, 0, 1), question), answerCode(impl.ErrText))
		}
	}
}

func TestReadAnswerHowManyBytes(t *testing.T) {
	right := answerOf(5, 132, 0, 1, questionOf(33, "s1", "local"), aRecord(33, 0, 1), aRecord(33, 1, 2), aRecord(33, 2, 3), aRecord(33, 3, 4))
	for size := range 310 {
		data := append(slices.Clone(right), make([]byte, 400)...)[:size]
		for _, d := range [][]byte{data, make([]byte, size), mixedBytes(size, 7)} {
			want := answerCode(either(size < 12 || size > 300, impl.ErrMany, impl.ErrText))
			if string(d) == string(right) {
				want = wantAnswerRead(right)
			}
			checkAnswerRead(t, d, want)
		}
	}
	checkAnswerRead(t, nil, answerCode(impl.ErrMany))
	checkAnswerRead(t, []byte{}, answerCode(impl.ErrMany))
	checkAnswerRead(t, make([]byte, 5000), answerCode(impl.ErrMany))
	// More records than a view has nodes.
	for count := 5; count <= 12; count++ {
		var records []impl.Record
		for i := range count {
			records = append(records, aRecord(33, int64(i)%10, 0))
		}
		checkAnswerRead(t, answerOf(5, 132, 0, 1, questionOf(33, "s1", "local"), records...), answerCode(impl.ErrText))
	}
}

// rightAnswers are answers of each status, cut ones and whole ones.
func rightAnswers() [][]byte {
	var out [][]byte
	for _, data := range askedData() {
		out = append(out, wantAnswer(offering(1, 0, 1, 3), data, 300).Bytes)
	}
	for _, service := range []int64{1, 12} {
		for _, kind := range []int64{1, 33} {
			for _, most := range []int64{60, 80, 95, 300} {
				query := wantQueryBytes(queryOf(514, kind, fmt.Sprint("s", service), "local"))
				out = append(out, wantAnswer(offering(service, 0, 1, 2, 3), query, most).Bytes, wantAnswer(offering(service, 1, 3), query, most).Bytes)
			}
		}
	}
	slices.SortFunc(out, slices.Compare)
	return slices.CompactFunc(out, slices.Equal)
}

func TestReadAnswerTooFewAndLeft(t *testing.T) {
	for _, right := range rightAnswers() {
		for end := range right {
			checkAnswerRead(t, right[:end], wantAnswerRead(right[:end]))
			if end >= 12 && impl.ReadAnswer(right[:end]).Code != impl.ErrText {
				t.Errorf("%x is read, though bytes are gone", right[:end])
			}
		}
		for _, more := range [][]byte{{0}, {1}, {192, 12}, right[12:], wantRecordBytes(aRecord(1, 3, 0)), wantRecordBytes(aRecord(33, 3, 0)), make([]byte, 300-len(right))} {
			if len(more) > 0 {
				data := slices.Concat(right, more)
				checkAnswerRead(t, data, answerCode(either(len(data) > 300, impl.ErrMany, impl.ErrText)))
			}
		}
	}
}

func TestReadAnswerOfEachByteTurned(t *testing.T) {
	for i, right := range rightAnswers() {
		if i%8 != 0 && right[7] == 0 {
			continue // there are many without a record
		}
		for at := range right {
			for mask := 1; mask < 256; mask += 1 + i%5 {
				data := spoilt(right, at, byte(mask))
				checkAnswerRead(t, data, wantAnswerRead(data))
			}
		}
	}
}

func TestReadAnswerOfAByteMoreOrLess(t *testing.T) {
	for _, right := range rightAnswers() {
		for at := range right {
			less := slices.Delete(slices.Clone(right), at, at+1)
			checkAnswerRead(t, less, wantAnswerRead(less))
			for _, b := range []byte{0, 1, right[at], 192} {
				more := slices.Insert(slices.Clone(right), at, b)
				checkAnswerRead(t, more, wantAnswerRead(more))
			}
		}
	}
}

func TestReadAnswerIsMadeAnew(t *testing.T) {
	// What is read is what was made by its own records.
	for _, right := range rightAnswers() {
		got := impl.ReadAnswer(right)
		if got.Code != impl.OK {
			t.Errorf("ReadAnswer of %x: %v", right, got)
			continue
		}
		var question []byte
		if got.Status != 1 {
			question = right[12 : len(right)-len(got.Records)*len(wantRecordBytes(append(got.Records, impl.Record{})[0]))]
		}
		mark := byte(either(got.Cut, 134, 132))
		if made := answerOf(got.Id, mark, byte(got.Status), either(got.Status == 1, 0, 1), question, got.Records...); string(made) != string(right) {
			t.Errorf("%v was read of %x, and that is %x", got, right, made)
		}
	}
}
