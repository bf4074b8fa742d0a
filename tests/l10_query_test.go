package tests

import (
	"encoding/binary"
	"fmt"
	"regexp"
	"slices"
	"strconv"
	"strings"
	"testing"

	"loop.example/g00725/impl"
)

var rightService = regexp.MustCompile(`\As(0|[1-9][0-9]?)\z`)

func queryOf(id int64, kind int64, labels ...string) impl.Query {
	return impl.Query{Id: id, Labels: labels, Type: kind}
}

// rightQueries are queries without a fault.
func rightQueries() []impl.Query {
	var out []impl.Query
	for i, id := range []int64{0, 1, 255, 256, 258, 65534, 65535} {
		for k, kind := range []int64{0, 1, 2, 32, 33, 34, 255, 256, 257, 289, 65535} {
			names := rightNames()
			out = append(out, queryOf(id, kind, "s1", "local"), queryOf(id, kind, names[(i*11+k*7)%len(names)]...))
		}
	}
	for _, labels := range rightNames() {
		out = append(out, queryOf(515, 33, labels...))
	}
	for _, service := range []string{"s0", "s9", "s10", "s12", "s99", "s00", "s01", "s100"} {
		out = append(out, queryOf(770, 1, service, "local"), queryOf(770, 33, service, "local"))
	}
	return out
}

// wrongQueries have each fault, and both.
func wrongQueries() []impl.Query {
	var out []impl.Query
	for _, n := range boundsOf(0, 65535) {
		if !isBetween(0, n, 65535) {
			out = append(out, queryOf(n, 1, "s1", "local"), queryOf(1, n, "s1", "local"), queryOf(n, n), queryOf(n, 1, "A"), queryOf(1, n, someLabels(7, 2)...))
		}
	}
	for _, labels := range wrongNames() {
		out = append(out, queryOf(1, 33, labels...), queryOf(-1, 33, labels...), queryOf(1, 65536, labels...))
	}
	return out
}

func wantQueryFault(q impl.Query) int64 {
	if !isBetween(0, q.Id, 65535) || !isBetween(0, q.Type, 65535) {
		return impl.ErrRange
	}
	return wantNameFault(q.Labels)
}

// wantQueryBytes needs an Id and a Type within their bounds.
func wantQueryBytes(q impl.Query) []byte {
	out := binary.BigEndian.AppendUint16(nil, uint16(q.Id))
	out = append(out, 1, 0, 0, 1, 0, 0, 0, 0, 0, 0)
	out = append(out, wantNameBytes(q.Labels)...)
	return append(out, byte(q.Type>>8), byte(q.Type), 0, 1)
}

func checkPacked(t *testing.T, q impl.Query, code int64) {
	t.Helper()
	got := impl.PackQuery(q)
	checkCode(t, fmt.Sprintf("PackQuery of %v", q), got, code)
	if code == impl.OK && string(got.Bytes) != string(wantQueryBytes(q)) {
		t.Errorf("PackQuery of %v = %x", q, got.Bytes)
	}
	if want := wantQueryFault(q); want != code {
		t.Errorf("by the document's words it is %d of %v, not %d", want, q, code)
	}
}

func queryCode(code int64) impl.QueryResult {
	return impl.QueryResult{Code: code}
}

func toldQuery(q impl.Query) impl.QueryResult {
	return impl.QueryResult{Query: q}
}

// queryText tells all fields; an empty list and nil are told alike.
func queryText(got impl.QueryResult) string {
	return fmt.Sprintf("%d %d %d %q", got.Code, got.Query.Id, got.Query.Type, got.Query.Labels)
}

// wantQuery is ReadQuery by the document's words: piece by piece, and no byte is another one.
func wantQuery(data []byte) impl.QueryResult {
	if len(data) < 12 || len(data) > 300 {
		return queryCode(impl.ErrMany)
	}
	none := queryCode(impl.ErrForm)
	q := impl.Query{Id: int64(data[0])<<8 + int64(data[1])}
	if string(data[2:12]) != "\x01\x00\x00\x01\x00\x00\x00\x00\x00\x00" {
		return none
	}
	rest := data[12:]
	for len(rest) > 0 && rest[0] > 0 {
		end := 1 + int(rest[0])
		if end > len(rest) {
			return none
		}
		q.Labels = append(q.Labels, string(rest[1:end]))
		rest = rest[end:]
	}
	if len(rest) != 5 || rest[3] != 0 || rest[4] != 1 || wantNameFault(q.Labels) != impl.OK {
		return none
	}
	q.Type = int64(rest[1])*256 + int64(rest[2])
	return toldQuery(q)
}

func checkQuery(t *testing.T, data []byte, want impl.QueryResult) {
	t.Helper()
	if got := impl.ReadQuery(data); queryText(got) != queryText(want) {
		t.Errorf("ReadQuery of %x: %s, want %s", data, queryText(got), queryText(want))
	}
	if words := wantQuery(data); queryText(words) != queryText(want) {
		t.Errorf("by the document's words it is %s of %x, not %s", queryText(words), data, queryText(want))
	}
}

func TestPackQueryExamples(t *testing.T) {
	for _, row := range []struct {
		q    impl.Query
		want string
	}{
		{queryOf(258, 33, "s1", "local"), "0102" + "0100" + "0001000000000000" + "027331056c6f63616c00" + "0021" + "0001"},
		{queryOf(0, 0), "0000" + "0100" + "0001000000000000" + "00" + "0000" + "0001"},
		{queryOf(65535, 65535, "a"), "ffff" + "0100" + "0001000000000000" + "016100" + "ffff" + "0001"},
		{queryOf(256, 1, "s0", "local"), "0100" + "0100" + "0001000000000000" + "027330056c6f63616c00" + "0001" + "0001"},
		{queryOf(255, 256, "-"), "00ff" + "0100" + "0001000000000000" + "012d00" + "0100" + "0001"},
	} {
		checkBlock(t, fmt.Sprintf("PackQuery of %v", row.q), nil, impl.PackQuery(row.q), fromHex(t, row.want))
		checkQuery(t, fromHex(t, row.want), toldQuery(row.q))
	}
	checkBlock(t, "PackQuery of an empty list", nil, impl.PackQuery(impl.Query{Id: 3, Labels: []string{}, Type: 1}), wantQueryBytes(queryOf(3, 1)))
	checkBlock(t, "PackQuery of nothing", nil, impl.PackQuery(impl.Query{}), wantQueryBytes(queryOf(0, 0)))
}

func TestQueriesAreReadBack(t *testing.T) {
	for _, q := range rightQueries() {
		checkPacked(t, q, impl.OK)
		checkQuery(t, impl.PackQuery(q).Bytes, toldQuery(q))
	}
}

func TestPackQueryOfWrongOnes(t *testing.T) {
	for _, q := range wrongQueries() {
		if wantQueryFault(q) == impl.OK {
			t.Fatalf("%v has no fault", q)
		}
		checkPacked(t, q, wantQueryFault(q))
	}
}

func TestPackQueryBounds(t *testing.T) {
	for _, n := range append(boundsOf(0, 65535), 32767, 32768, 65536, 65537, 131071, 1<<31, 1<<48) {
		code := rangeOr(0 <= n && n <= 65535)
		checkPacked(t, queryOf(n, 1, "s1", "local"), code)
		checkPacked(t, queryOf(1, n, "s1", "local"), code)
		checkPacked(t, queryOf(n, n), code)
		// Ahead of the codes of the labels.
		for _, wrong := range [][]string{{"A"}, {""}, someLabels(7, 2), make([]string, 300)} {
			want := code
			if code == impl.OK {
				want = either(len(wrong) > 6, impl.ErrMany, impl.ErrText)
			}
			checkPacked(t, queryOf(n, 1, wrong...), want)
			checkPacked(t, queryOf(1, n, wrong...), want)
		}
	}
}

func TestReadQueryHowManyBytes(t *testing.T) {
	right := wantQueryBytes(queryOf(258, 33, "s1", "local"))
	for size := range 310 {
		for _, data := range [][]byte{make([]byte, size), append(slices.Clone(right), make([]byte, 400)...)[:size], mixedBytes(size, size)} {
			want := queryCode(either(size < 12 || size > 300, impl.ErrMany, impl.ErrForm))
			if size == len(right) && data[0] == 1 && data[2] == 1 {
				want = toldQuery(queryOf(258, 33, "s1", "local"))
			}
			checkQuery(t, data, want)
		}
	}
	checkQuery(t, nil, queryCode(impl.ErrMany))
	checkQuery(t, []byte{}, queryCode(impl.ErrMany))
	checkQuery(t, make([]byte, 5000), queryCode(impl.ErrMany))
	// The shortest one and the longest one that there are.
	checkQuery(t, wantQueryBytes(queryOf(1, 1)), toldQuery(queryOf(1, 1)))
	checkQuery(t, wantQueryBytes(queryOf(1, 1, someLabels(6, 20)...)), toldQuery(queryOf(1, 1, someLabels(6, 20)...)))
	checkQuery(t, wantQueryBytes(queryOf(1, 1, someLabels(7, 20)...)), queryCode(impl.ErrForm))
}

func TestReadQueryTooFewAndLeft(t *testing.T) {
	for i, q := range rightQueries() {
		right := wantQueryBytes(q)
		for end := range right {
			checkQuery(t, right[:end], queryCode(either(end < 12, impl.ErrMany, impl.ErrForm)))
		}
		for _, more := range [][]byte{{0}, {1}, {0, 1}, {byte(i)}, {0, 0, 1, 0, 1}, right, make([]byte, 300-len(right))} {
			data := slices.Concat(right, more)
			checkQuery(t, data, queryCode(either(len(data) > 300, impl.ErrMany, impl.ErrForm)))
		}
	}
}

func TestReadQueryOfEachByteTurned(t *testing.T) {
	for i, q := range rightQueries() {
		right := wantQueryBytes(q)
		for at := range right {
			for mask := 1; mask < 256; mask += 1 + i%4 {
				data := spoilt(right, at, byte(mask))
				want := wantQuery(data)
				checkQuery(t, data, want)
				if 2 <= at && at < 12 && want.Code != impl.ErrForm {
					t.Errorf("the head of %x is that of a query", data)
				}
			}
		}
	}
}

func TestReadQueryOfAByteMoreOrLess(t *testing.T) {
	for i, q := range rightQueries() {
		right := wantQueryBytes(q)
		for at := range right {
			checkQuery(t, slices.Delete(slices.Clone(right), at, at+1), wantQuery(slices.Delete(slices.Clone(right), at, at+1)))
			for _, b := range []byte{0, 1, right[at], byte(i), 192} {
				data := slices.Insert(slices.Clone(right), at, b)
				checkQuery(t, data, wantQuery(data))
			}
		}
	}
}

func TestReadQueryOfANameWithAJump(t *testing.T) {
	head := string(wantQueryBytes(queryOf(256, 33))[:12]) // begins with the bytes 1 and 0
	for _, name := range []string{
		"\xc0\x01", "\xc0\x02", "\xc0\x0b", "\xc0\x0a", "\x01a\xc0\x01", "\x02s1\x05local\xc0\x01", "\x02s1\x05local\xc0\x0b", "\x02s1\xc0\x01", "\x01a\xc0\x0e", "\x01a\xc0\x10",
		"\xc0\x0c", "\x01a\xc0\x0c", "\x01a\x00\xc0\x0c", "\xff\xff", "\xc0",
	} {
		for _, end := range []string{"\x00\x21\x00\x01", "\x00\x00\x21\x00\x01", "", "\x00", "\x00\x01\x00\x01\x00\x21\x00\x01"} {
			checkQuery(t, []byte(head+name+end), queryCode(impl.ErrForm))
		}
	}
	// It is a name all the same.
	data := []byte(head + "\x01a\xc0\x01\x00\x21\x00\x01")
	checkName(t, data, 12, toldName(16, "a"))
	checkQuery(t, []byte(head+"\x01a\x00\x00\x21\x00\x01"), toldQuery(queryOf(256, 33, "a")))
}

func TestReadQueryOfWrongNames(t *testing.T) {
	for _, labels := range wrongNames() {
		data := wantQueryBytes(queryOf(1, 33, labels...))
		checkQuery(t, data, wantQuery(data))
	}
	for _, wrong := range []string{"A", "a.b", "a\x00", "\x7f", aLabel(21, 0), aLabel(63, 0), aLabel(64, 0), aLabel(192, 0)} {
		checkQuery(t, wantQueryBytes(queryOf(1, 33, wrong)), queryCode(impl.ErrForm))
		checkQuery(t, wantQueryBytes(queryOf(1, 33, "s1", wrong, "local")), queryCode(impl.ErrForm))
	}
}

// wantService is ServiceOf by the document's words.
func wantService(labels []string) impl.IntResult {
	if len(labels) == 2 && labels[1] == "local" && rightService.MatchString(labels[0]) {
		n := int64(0)
		for _, c := range labels[0][1:] {
			n = n*10 + int64(c-'0')
		}
		return impl.IntResult{Value: n}
	}
	return impl.IntResult{Code: impl.ErrNone}
}

func checkService(t *testing.T, labels []string, want impl.IntResult) {
	t.Helper()
	checkInt(t, fmt.Sprintf("ServiceOf %q", labels), impl.ServiceOf(labels), want)
	checkInt(t, fmt.Sprintf("by the document's words ServiceOf %q", labels), wantService(labels), want)
}

func TestServiceOf(t *testing.T) {
	none := impl.IntResult{Code: impl.ErrNone}
	for n := range int64(100) {
		digits := strconv.FormatInt(n, 10)
		checkService(t, []string{"s" + digits, "local"}, impl.IntResult{Value: n})
		// Any other form of it.
		for _, label := range []string{digits, "S" + digits, "s0" + digits, "s00" + digits, "s+" + digits, "s-" + digits, "s" + digits + "-", "s " + digits, "s" + digits + " ",
			"ss" + digits, "t" + digits, "r" + digits, "s" + digits + "s", "s" + digits + ".0", "s" + digits + "x", "sx" + digits, "as" + digits, "s_" + digits, "s" + digits + "_0", "s0x" + digits} {
			checkService(t, []string{label, "local"}, none)
		}
		for _, second := range []string{"", "Local", "LOCAL", "locals", "loca", "ocal", "local.", ".local", "lo-cal", "local0", "s1", "local ", "local\x00"} {
			checkService(t, []string{"s" + digits, second}, none)
		}
		for _, labels := range [][]string{{"s" + digits}, {"local", "s" + digits}, {"s" + digits, "local", "local"}, {"s" + digits, "local", ""}, {"a", "s" + digits, "local"}, {"s" + digits, "a", "local"},
			{"s" + digits + ".local"}, {"s" + digits + ".local", ""}, {"", "s" + digits, "local"}} {
			checkService(t, labels, none)
		}
	}
}

func TestServiceOfWhatIsNone(t *testing.T) {
	none := impl.IntResult{Code: impl.ErrNone}
	for _, labels := range [][]string{nil, {}, {"s"}, {"local"}, {"s", "local"}, {"", "local"}, {"", ""}, {"local", "local"}, {"s1", "s1"}, make([]string, 2), make([]string, 300)} {
		checkService(t, labels, none)
	}
	for _, digits := range []string{
		"", "100", "101", "999", "1000", "65536", "00", "01", "09", "010", "000", "+0", "-0", "+1", "-1", "+", "-", "--1", "1-", "-10", "1e1", "0x1", "1.", ".1", "1,0", "1 ", " 1", "a", "1a", "a1", "1_1", "٣", "１", "²",
		"9223372036854775807", "9223372036854775808", "18446744073709551616", "18446744073709551617", "36893488147419103233", strings.Repeat("0", 30) + "1", strings.Repeat("9", 5000), "\x001", "1\x00", "1\n", "\xff",
	} {
		checkService(t, []string{"s" + digits, "local"}, none)
	}
	for a := range 256 {
		one := []string{"s" + string([]byte{byte(a)}), "local"}
		checkService(t, one, wantService(one))
		checkService(t, []string{string([]byte{byte(a)}) + "1", "local"}, wantService([]string{string([]byte{byte(a)}) + "1", "local"}))
		for b := range 256 {
			two := []string{"s" + string([]byte{byte(a), byte(b)}), "local"}
			if got := impl.ServiceOf(two); got != wantService(two) {
				t.Fatalf("ServiceOf %q: %v", two, got)
			}
		}
	}
	for _, labels := range append(rightNames(), wrongNames()...) {
		checkService(t, labels, wantService(labels))
	}
}
