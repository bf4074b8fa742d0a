package tests

import (
	"fmt"
	"math"
	"slices"
	"testing"

	"loop.example/g00725/impl"
)

func recordsCode(code int64) impl.RecordsResult {
	return impl.RecordsResult{Code: code}
}

func toldRecords(list ...impl.Record) impl.RecordsResult {
	return impl.RecordsResult{Records: list}
}

func aRecord(kind int64, node int64, port int64) impl.Record {
	return impl.Record{Type: kind, Node: node, Port: port}
}

// recordsText tells all fields; an empty list and nil are told alike.
func recordsText(got impl.RecordsResult) string {
	return fmt.Sprint(got.Code, got.Records)
}

func checkRecords(t *testing.T, name string, got impl.RecordsResult, want impl.RecordsResult) {
	t.Helper()
	if recordsText(got) != recordsText(want) {
		t.Errorf("%s: %v, want %v", name, got, want)
	}
}

// wantRecords is RecordsFor by the document's words.
func wantRecords(view []impl.Claim, service int64, kind int64) impl.RecordsResult {
	if code := wantViewFault(view); code != impl.OK {
		return recordsCode(code)
	}
	if !isBetween(0, service, 99) || kind != 1 && kind != 33 {
		return recordsCode(impl.ErrRange)
	}
	var out []impl.Record
	for _, c := range view {
		// The Metas of this service are those from its first one on.
		if first := service << 16; c.Status == 0 && isBetween(first, c.Meta, first+65535) {
			out = append(out, impl.Record{Type: kind, Node: c.Node, Port: map[int64]int64{1: 0, 33: c.Meta - first}[kind]})
		}
	}
	return toldRecords(out...)
}

// serviceViews are views whose nodes offer this service or another one, and are of each Status.
func serviceViews(service int64) [][]impl.Claim {
	first := service * 65536
	metas := []int64{first, first + 1, first + 80, first + 65535, first + 65536, max(first-1, 0), 0, 9999999}
	var out [][]impl.Claim
	for set := range 16 {
		for seed := range int64(12) {
			var view []impl.Claim
			for node := range int64(4) {
				if set>>node&1 == 1 {
					mix := seed*5 + node*3 + seed*node
					view = append(view, aClaim(node, mix, mix/2%4%3, metas[(mix+seed)%8]))
				}
			}
			out = append(out, view)
		}
		var offered []impl.Claim
		for node := range int64(4) {
			if set>>node&1 == 1 {
				offered = append(offered, aClaim(node, 1, 0, first+node*21845))
			}
		}
		out = append(out, offered)
	}
	return out
}

func TestRecordsForExamples(t *testing.T) {
	view := []impl.Claim{aClaim(0, 1, 0, 65616), aClaim(1, 1, 1, 65617), aClaim(2, 1, 0, 65618), aClaim(3, 1, 2, 65619)}
	for _, row := range []struct {
		view          []impl.Claim
		service, kind int64
		want          impl.RecordsResult
	}{
		{view, 1, 33, toldRecords(aRecord(33, 0, 80), aRecord(33, 2, 82))}, {view, 1, 1, toldRecords(aRecord(1, 0, 0), aRecord(1, 2, 0))},
		{view, 0, 33, toldRecords()}, {view, 2, 1, toldRecords()}, {view, 99, 33, toldRecords()}, {nil, 1, 33, toldRecords()}, {[]impl.Claim{}, 0, 1, toldRecords()},
		{view[:1], 1, 33, toldRecords(aRecord(33, 0, 80))}, {view[1:2], 1, 33, toldRecords()}, {view[2:], 1, 33, toldRecords(aRecord(33, 2, 82))},
		// The first Meta and the last one of a service.
		{[]impl.Claim{aClaim(1, 0, 0, 65535), aClaim(2, 0, 0, 65536), aClaim(3, 0, 0, 0)}, 0, 33, toldRecords(aRecord(33, 1, 65535), aRecord(33, 3, 0))},
		{[]impl.Claim{aClaim(1, 0, 0, 65535), aClaim(2, 0, 0, 65536), aClaim(3, 0, 0, 131071)}, 1, 33, toldRecords(aRecord(33, 2, 0), aRecord(33, 3, 65535))},
		{[]impl.Claim{aClaim(0, 0, 0, 6488064), aClaim(1, 0, 0, 6553599), aClaim(2, 0, 0, 6488063), aClaim(3, 0, 0, 6553600)}, 99, 33, toldRecords(aRecord(33, 0, 0), aRecord(33, 1, 65535))},
		// Services that nobody can ask for.
		{[]impl.Claim{aClaim(0, 0, 0, 9999999), aClaim(1, 0, 0, 6553600)}, 99, 1, toldRecords()},
		{[]impl.Claim{aClaim(0, 0, 0, 9999999)}, 152, 1, recordsCode(impl.ErrRange)}, {[]impl.Claim{aClaim(0, 0, 0, 6553600)}, 100, 33, recordsCode(impl.ErrRange)},
	} {
		checkRecords(t, fmt.Sprintf("RecordsFor %v, %d and %d", row.view, row.service, row.kind), impl.RecordsFor(row.view, row.service, row.kind), row.want)
		checkRecords(t, "by the document's words", wantRecords(row.view, row.service, row.kind), row.want)
	}
}

func TestRecordsForManyViews(t *testing.T) {
	for _, service := range []int64{0, 1, 2, 9, 10, 50, 98, 99} {
		for _, view := range serviceViews(service) {
			for _, asked := range []int64{service, service + 1, service - 1, 0, 1, 99} {
				for _, kind := range []int64{1, 33, 0} {
					got := impl.RecordsFor(view, asked, kind)
					checkRecords(t, fmt.Sprintf("RecordsFor %v, %d and %d", view, asked, kind), got, wantRecords(view, asked, kind))
					for _, r := range got.Records {
						c := impl.FindClaim(view, r.Node).View[0]
						if c.Status != impl.StatusAlive || c.Meta>>16 != asked || !slices.Contains(impl.NodesIn(view, impl.StatusAlive).List, r.Node) {
							t.Errorf("%v is found for the service %d", c, asked)
						}
					}
				}
			}
		}
	}
}

func TestRecordsForOfEachStatus(t *testing.T) {
	for n := range int64(81) {
		var view []impl.Claim
		var want []impl.Record
		for node := range int64(4) {
			status := n / []int64{1, 3, 9, 27}[node] % 3
			view = append(view, aClaim(node, 2-status, status, 5*65536+node))
			if status == 0 {
				want = append(want, aRecord(33, node, node))
			}
		}
		checkRecords(t, fmt.Sprintf("RecordsFor %v", view), impl.RecordsFor(view, 5, 33), toldRecords(want...))
	}
}

func TestRecordsForBounds(t *testing.T) {
	view := []impl.Claim{aClaim(0, 1, 0, 80), aClaim(2, 1, 0, 99*65536+7)}
	for _, service := range append(boundsOf(0, 99), 98, 100, 152) {
		for _, kind := range append(append(boundsOf(1, 33), boundsOf(33, 33)...), 28, 257, 289, 65537) {
			for _, v := range [][]impl.Claim{view, nil, view[:1]} {
				checkRecords(t, fmt.Sprintf("RecordsFor %v, %d and %d", v, service, kind), impl.RecordsFor(v, service, kind), wantRecords(v, service, kind))
			}
		}
	}
	for _, kind := range []int64{1, 33} {
		for _, service := range []int64{-1, 100, 1 << 32, 1<<32 + 1, math.MinInt64, math.MaxInt64} {
			checkRecords(t, fmt.Sprint("RecordsFor the service ", service), impl.RecordsFor(view, service, kind), recordsCode(impl.ErrRange))
		}
	}
	for _, kind := range []int64{0, 2, 32, 34, -1, -33, 255, 257, 289, 1<<32 + 1, 1<<32 + 33, math.MinInt64, math.MaxInt64} {
		checkRecords(t, fmt.Sprint("RecordsFor the kind ", kind), impl.RecordsFor(view, 1, kind), recordsCode(impl.ErrRange))
	}
}

func TestRecordsForOfWrongViews(t *testing.T) {
	for _, view := range wrongViews() {
		for _, service := range []int64{0, 1, 99, 100, -1, math.MaxInt64} {
			for _, kind := range []int64{1, 33, 2, math.MinInt64} {
				// The fault of the view ahead of ErrRange.
				checkRecords(t, fmt.Sprintf("RecordsFor %v, %d and %d", view, service, kind), impl.RecordsFor(view, service, kind), recordsCode(wantViewFault(view)))
			}
		}
	}
}

// differentRecords are any lists of records, right and wrong ones, of which no two are the same.
func differentRecords() [][]impl.Record {
	a, b, c := aRecord(33, 1, 80), aRecord(1, 1, 0), aRecord(33, 2, 80)
	out := [][]impl.Record{
		nil, {{}}, {{}, {}}, {{}, {}, {}}, {a}, {b}, {c}, {a, a}, {a, b}, {b, a}, {a, c}, {c, a}, {b, c}, {a, b, c}, {a, c, b}, {c, b, a}, {a, b, {}}, {{}, a, b},
		{aRecord(1, 33, 80)}, {aRecord(80, 1, 33)}, {aRecord(33, 80, 1)}, {aRecord(33, 1, 81)}, {aRecord(33, 1, 0)}, {aRecord(1, 1, 80)}, {aRecord(33, 0, 80)}, {aRecord(33, 3, 80)},
		make([]impl.Record, 1000), make([]impl.Record, 1001),
	}
	for _, n := range []int64{1, 2, -1, 1 << 32, 1<<32 + 1, math.MinInt64, math.MaxInt64} {
		out = append(out, []impl.Record{{Type: n}}, []impl.Record{{Node: n}}, []impl.Record{{Port: n}}, []impl.Record{a, {Port: n}}, []impl.Record{{Node: n}, a})
	}
	return out
}

func TestSameRecords(t *testing.T) {
	left, right := differentRecords(), differentRecords()
	for i, a := range left {
		for j, b := range right {
			if got := impl.SameRecords(a, b); got != (i == j) {
				t.Errorf("SameRecords of %v and %v = %v", a, b, got)
			}
		}
	}
}

func TestSameRecordsOfNilAndEmpty(t *testing.T) {
	lists := [][]impl.Record{nil, {}, make([]impl.Record, 0, 9), []impl.Record{{}, {}}[:0]}
	for _, a := range lists {
		for _, b := range lists {
			if !impl.SameRecords(a, b) {
				t.Errorf("SameRecords of %#v and %#v is false", a, b)
			}
		}
		if impl.SameRecords(a, make([]impl.Record, 1)) || impl.SameRecords(make([]impl.Record, 1), a) {
			t.Errorf("SameRecords of %#v and a record is true", a)
		}
	}
	if list := []impl.Record{aRecord(1, 1, 0), {}, {}}; impl.SameRecords(list[:1], list[:2]) || !impl.SameRecords(list[1:2], list[2:]) {
		t.Error("what lies behind the end of a list counts")
	}
}
