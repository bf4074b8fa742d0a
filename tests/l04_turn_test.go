package tests

import (
	"fmt"
	"math"
	"slices"
	"testing"

	"loop.example/g00725/impl"
)

// ringText tells all fields; an empty list and nil are told alike.
func ringText(r impl.Ring) string {
	return fmt.Sprint(r.Primary, r.Keys)
}

func checkRing(t *testing.T, name string, got impl.RingResult, want impl.RingResult) {
	t.Helper()
	if got.Code != want.Code || ringText(got.Ring) != ringText(want.Ring) {
		t.Errorf("%s: %v, want %v", name, got, want)
	}
}

func checkKey(t *testing.T, name string, got impl.KeyResult, want impl.KeyResult) {
	t.Helper()
	if got.Code != want.Code || got.Key.Id != want.Key.Id || string(got.Key.Bytes) != string(want.Key.Bytes) {
		t.Errorf("%s: %v, want %v", name, got, want)
	}
}

func ringCode(code int64) impl.RingResult {
	return impl.RingResult{Code: code}
}

func placeOf(r impl.Ring, id int64) int {
	return slices.IndexFunc(r.Keys, func(k impl.Key) bool { return k.Id == id })
}

func wantFound(r impl.Ring, id int64) impl.KeyResult {
	if code := wantRingFault(r); code != impl.OK {
		return impl.KeyResult{Code: code}
	}
	if placeOf(r, id) < 0 {
		return impl.KeyResult{Code: impl.ErrNone}
	}
	return impl.KeyResult{Key: r.Keys[placeOf(r, id)]}
}

func wantInstalled(r impl.Ring, k impl.Key) impl.RingResult {
	fault := wantRingFault(r)
	switch {
	case fault != impl.OK:
		return ringCode(fault)
	case !isRightId(k.Id):
		return ringCode(impl.ErrRange)
	case len(k.Bytes) != 16:
		return ringCode(impl.ErrMany)
	case placeOf(r, k.Id) >= 0:
		return ringCode(impl.ErrTaken)
	case len(r.Keys) == 3:
		return ringCode(impl.ErrFull)
	}
	keys := append(slices.Clone(r.Keys), k)
	slices.SortFunc(keys, func(a, b impl.Key) int { return int(a.Id - b.Id) })
	return impl.RingResult{Ring: impl.Ring{Primary: r.Primary, Keys: keys}}
}

func wantUsed(r impl.Ring, id int64) impl.RingResult {
	if found := wantFound(r, id); found.Code != impl.OK {
		return ringCode(found.Code)
	}
	return impl.RingResult{Ring: impl.Ring{Primary: id, Keys: r.Keys}}
}

func wantRemoved(r impl.Ring, id int64) impl.RingResult {
	if found := wantFound(r, id); found.Code != impl.OK {
		return ringCode(found.Code)
	}
	if r.Primary == id {
		return ringCode(impl.ErrState)
	}
	at := placeOf(r, id)
	return impl.RingResult{Ring: impl.Ring{Primary: r.Primary, Keys: slices.Delete(slices.Clone(r.Keys), at, at+1)}}
}

func wantTurned(r impl.Ring, op int64, k impl.Key) impl.RingResult {
	fault := wantRingFault(r)
	switch {
	case fault != impl.OK:
		return ringCode(fault)
	case op < 1 || op > 3 || op != 1 && len(k.Bytes) > 0:
		return ringCode(impl.ErrForm)
	case op == 1:
		return wantInstalled(r, k)
	case op == 2:
		return wantUsed(r, k.Id)
	}
	return wantRemoved(r, k.Id)
}

func TestFindKey(t *testing.T) {
	r := ringOf(5, 2, 5, 255)
	for _, id := range []int64{2, 5, 255} {
		checkKey(t, "FindKey", impl.FindKey(r, id), impl.KeyResult{Key: ringKey(id)})
	}
	for _, id := range []int64{1, 3, 4, 6, 100, 254} {
		checkKey(t, "FindKey of none", impl.FindKey(r, id), impl.KeyResult{Code: impl.ErrNone})
	}
	// An Id that no key can have is not there: nothing asks its bounds.
	for _, id := range []int64{0, -1, -2, 256, 261, 1<<32 + 5, math.MinInt64, math.MinInt64 + 5, math.MaxInt64} {
		checkKey(t, "FindKey of no Id", impl.FindKey(r, id), impl.KeyResult{Code: impl.ErrNone})
	}
	checkKey(t, "FindKey of one", impl.FindKey(ringOf(1, 1), 1), impl.KeyResult{Key: ringKey(1)})
}

func TestInstallKeyAtItsPlace(t *testing.T) {
	for _, row := range []struct {
		ids  []int64
		id   int64
		want []int64
	}{
		{[]int64{5}, 2, []int64{2, 5}}, {[]int64{5}, 9, []int64{5, 9}}, {[]int64{5}, 1, []int64{1, 5}}, {[]int64{5}, 255, []int64{5, 255}},
		{[]int64{5}, 4, []int64{4, 5}}, {[]int64{5}, 6, []int64{5, 6}},
		{[]int64{5, 9}, 2, []int64{2, 5, 9}}, {[]int64{5, 9}, 7, []int64{5, 7, 9}}, {[]int64{5, 9}, 10, []int64{5, 9, 10}},
		{[]int64{1, 255}, 128, []int64{1, 128, 255}}, {[]int64{2, 255}, 1, []int64{1, 2, 255}}, {[]int64{1, 254}, 255, []int64{1, 254, 255}},
	} {
		for _, primary := range row.ids {
			got := impl.InstallKey(ringOf(primary, row.ids...), ringKey(row.id))
			checkRing(t, "InstallKey", got, impl.RingResult{Ring: ringOf(primary, row.want...)})
			checkFault(t, got.Ring, impl.OK)
		}
	}
	// Two Ids may have the same Bytes.
	twin := impl.Key{Id: 7, Bytes: ringKey(5).Bytes}
	checkRing(t, "InstallKey of a twin", impl.InstallKey(ringOf(5, 5), twin), impl.RingResult{Ring: ringOfKeys(5, ringKey(5), twin)})
}

func TestInstallKeyCodes(t *testing.T) {
	for _, id := range []int64{2, 5, 9} {
		checkRing(t, "InstallKey of a taken Id", impl.InstallKey(ringOf(5, 2, 5, 9), ringKey(id)), ringCode(impl.ErrTaken))
	}
	checkRing(t, "InstallKey of a taken Id", impl.InstallKey(ringOf(5, 5), impl.Key{Id: 5, Bytes: make([]byte, 16)}), ringCode(impl.ErrTaken))
	for _, id := range []int64{1, 3, 7, 10, 255} {
		checkRing(t, "InstallKey into three", impl.InstallKey(ringOf(5, 2, 5, 9), ringKey(id)), ringCode(impl.ErrFull))
	}
	for _, id := range keyIds {
		if !isRightId(id) {
			checkRing(t, "InstallKey of no Id", impl.InstallKey(ringOf(5, 5), ringKey(id)), ringCode(impl.ErrRange))
			// Ahead of ErrMany and of ErrFull.
			checkRing(t, "InstallKey of no Id and no Bytes", impl.InstallKey(ringOf(5, 2, 5, 9), impl.Key{Id: id}), ringCode(impl.ErrRange))
		}
	}
	for _, size := range []int{0, 1, 15, 17, 32, 801} {
		checkRing(t, "InstallKey of wrong Bytes", impl.InstallKey(ringOf(5, 5), sizedKey(6, size)), ringCode(impl.ErrMany))
		// Ahead of ErrTaken and of ErrFull.
		checkRing(t, "InstallKey of wrong Bytes, taken", impl.InstallKey(ringOf(5, 5), sizedKey(5, size)), ringCode(impl.ErrMany))
		checkRing(t, "InstallKey of wrong Bytes, full", impl.InstallKey(ringOf(5, 2, 5, 9), sizedKey(6, size)), ringCode(impl.ErrMany))
	}
	checkRing(t, "InstallKey of nothing", impl.InstallKey(ringOf(5, 5), impl.Key{}), ringCode(impl.ErrRange))
}

func TestUseKey(t *testing.T) {
	for _, primary := range []int64{2, 5, 255} {
		r := ringOf(primary, 2, 5, 255)
		for _, id := range []int64{2, 5, 255} {
			checkRing(t, "UseKey", impl.UseKey(r, id), impl.RingResult{Ring: ringOf(id, 2, 5, 255)})
		}
		for _, id := range []int64{0, -1, 1, 3, 6, 254, 256, 261, 1<<32 + 5, math.MinInt64, math.MaxInt64} {
			checkRing(t, "UseKey of none", impl.UseKey(r, id), ringCode(impl.ErrNone))
		}
	}
	checkRing(t, "UseKey of one", impl.UseKey(ringOf(1, 1), 1), impl.RingResult{Ring: ringOf(1, 1)})
}

func TestRemoveKey(t *testing.T) {
	for _, row := range []struct {
		primary, id int64
		ids, want   []int64
	}{
		{5, 2, []int64{2, 5, 9}, []int64{5, 9}}, {5, 9, []int64{2, 5, 9}, []int64{2, 5}},
		{2, 5, []int64{2, 5, 9}, []int64{2, 9}}, {2, 9, []int64{2, 5, 9}, []int64{2, 5}},
		{9, 2, []int64{2, 5, 9}, []int64{5, 9}}, {9, 5, []int64{2, 5, 9}, []int64{2, 9}},
		{1, 255, []int64{1, 255}, []int64{1}}, {255, 1, []int64{1, 255}, []int64{255}},
	} {
		got := impl.RemoveKey(ringOf(row.primary, row.ids...), row.id)
		checkRing(t, "RemoveKey", got, impl.RingResult{Ring: ringOf(row.primary, row.want...)})
		checkFault(t, got.Ring, impl.OK)
	}
}

func TestRemoveKeyCodes(t *testing.T) {
	for _, ids := range [][]int64{{5}, {5, 9}, {2, 5}, {2, 5, 9}, {5, 6, 7}, {1, 2, 5}} {
		r := ringOf(5, ids...)
		checkRing(t, "RemoveKey of the Primary", impl.RemoveKey(r, 5), ringCode(impl.ErrState))
		for _, id := range []int64{0, -1, -5, 3, 100, 256, 261, 1<<32 + 5, math.MinInt64, math.MaxInt64} {
			checkRing(t, "RemoveKey of none", impl.RemoveKey(r, id), ringCode(impl.ErrNone))
		}
	}
}

func TestTurnRing(t *testing.T) {
	r := ringOf(5, 2, 5)
	checkRing(t, "KeyInstall", impl.TurnRing(r, impl.KeyInstall, ringKey(3)), impl.RingResult{Ring: ringOf(5, 2, 3, 5)})
	checkRing(t, "KeyInstall of a taken Id", impl.TurnRing(r, impl.KeyInstall, ringKey(2)), ringCode(impl.ErrTaken))
	checkRing(t, "KeyInstall without Bytes", impl.TurnRing(r, impl.KeyInstall, impl.Key{Id: 3}), ringCode(impl.ErrMany))
	checkRing(t, "KeyInstall of no Id", impl.TurnRing(r, impl.KeyInstall, ringKey(0)), ringCode(impl.ErrRange))
	checkRing(t, "KeyInstall into three", impl.TurnRing(ringOf(5, 2, 5, 9), impl.KeyInstall, ringKey(3)), ringCode(impl.ErrFull))
	for _, bytes := range [][]byte{nil, {}, make([]byte, 0, 16)} {
		use := func(id int64) impl.RingResult { return impl.TurnRing(r, impl.KeyUse, impl.Key{Id: id, Bytes: bytes}) }
		remove := func(id int64) impl.RingResult {
			return impl.TurnRing(r, impl.KeyRemove, impl.Key{Id: id, Bytes: bytes})
		}
		checkRing(t, "KeyUse", use(2), impl.RingResult{Ring: ringOf(2, 2, 5)})
		checkRing(t, "KeyUse of the Primary", use(5), impl.RingResult{Ring: ringOf(5, 2, 5)})
		checkRing(t, "KeyRemove", remove(2), impl.RingResult{Ring: ringOf(5, 5)})
		checkRing(t, "KeyRemove of the Primary", remove(5), ringCode(impl.ErrState))
		for _, id := range []int64{0, -1, 3, 256, math.MinInt64, math.MaxInt64} {
			checkRing(t, "KeyUse of none", use(id), ringCode(impl.ErrNone))
			checkRing(t, "KeyRemove of none", remove(id), ringCode(impl.ErrNone))
		}
	}
}

func TestTurnRingForm(t *testing.T) {
	r := ringOf(5, 2, 5)
	// Ahead of all that the three would tell.
	for _, id := range []int64{2, 3, 5, 0, -1, 256} {
		for _, op := range []int64{impl.KeyUse, impl.KeyRemove} {
			for _, size := range []int{1, 15, 16, 17} {
				checkRing(t, "Bytes that are not needed", impl.TurnRing(r, op, sizedKey(id, size)), ringCode(impl.ErrForm))
			}
		}
		for _, op := range []int64{0, 4, 5, -1, -2, 257, 258, 1<<32 + 1, 1<<32 + 2, math.MinInt64, math.MaxInt64} {
			checkRing(t, "another op", impl.TurnRing(r, op, ringKey(id)), ringCode(impl.ErrForm))
			checkRing(t, "another op, without Bytes", impl.TurnRing(r, op, impl.Key{Id: id}), ringCode(impl.ErrForm))
		}
	}
}

func TestWrongRingFirst(t *testing.T) {
	for _, row := range []struct {
		r    impl.Ring
		code int64
	}{
		{impl.Ring{}, impl.ErrMany}, {ringOf(1, 1, 2, 3, 4), impl.ErrMany}, {ringOf(0, 0), impl.ErrRange}, {ringOf(5, 5, 256), impl.ErrRange},
		{ringOfKeys(5, sizedKey(5, 15)), impl.ErrMany}, {ringOf(5, 5, 2), impl.ErrForm}, {ringOf(5, 5, 5), impl.ErrForm},
		{ringOf(9, 5), impl.ErrNone}, {ringOf(0, 2, 5, 6), impl.ErrNone},
	} {
		for _, id := range []int64{5, 0, 3, 9, 256} {
			checkKey(t, "FindKey", impl.FindKey(row.r, id), impl.KeyResult{Code: row.code})
			checkRing(t, "UseKey", impl.UseKey(row.r, id), ringCode(row.code))
			checkRing(t, "RemoveKey", impl.RemoveKey(row.r, id), ringCode(row.code))
			for _, size := range []int{0, 15, 16} {
				checkRing(t, "InstallKey", impl.InstallKey(row.r, sizedKey(id, size)), ringCode(row.code))
				for op := int64(0); op <= 4; op++ {
					checkRing(t, "TurnRing", impl.TurnRing(row.r, op, sizedKey(id, size)), ringCode(row.code))
				}
			}
		}
	}
}

// rightRings are rings of one, two and three of these Ids, by each of their Primaries.
func rightRings() []impl.Ring {
	ids := []int64{1, 2, 5, 254, 255}
	var out []impl.Ring
	for set := 1; set < 1<<len(ids); set++ {
		var chosen []int64
		for i, id := range ids {
			if set>>i&1 == 1 {
				chosen = append(chosen, id)
			}
		}
		for _, primary := range chosen {
			if len(chosen) <= 3 {
				out = append(out, ringOf(primary, chosen...))
			}
		}
	}
	return out
}

func TestAllTurnsOfAllRings(t *testing.T) {
	rings := append(rightRings(), differentRings()...)
	for _, r := range rings {
		for _, id := range []int64{-1, 0, 1, 2, 3, 5, 253, 254, 255, 256, 257} {
			checkKey(t, "FindKey", impl.FindKey(r, id), wantFound(r, id))
			checkRing(t, "UseKey", impl.UseKey(r, id), wantUsed(r, id))
			checkRing(t, "RemoveKey", impl.RemoveKey(r, id), wantRemoved(r, id))
			for _, size := range []int{0, 15, 16, 17} {
				k := sizedKey(id, size)
				checkRing(t, "InstallKey", impl.InstallKey(r, k), wantInstalled(r, k))
				for op := int64(0); op <= 4; op++ {
					checkRing(t, "TurnRing", impl.TurnRing(r, op, k), wantTurned(r, op, k))
				}
			}
		}
	}
}

func TestInstalledIsFoundAndUsedAndRemoved(t *testing.T) {
	for _, r := range rightRings() {
		for id := int64(1); id <= impl.MaxKeyId; id++ {
			if len(r.Keys) == impl.MaxKeys || placeOf(r, id) >= 0 {
				continue
			}
			with := impl.InstallKey(r, ringKey(id)).Ring
			checkKey(t, "FindKey of what was installed", impl.FindKey(with, id), impl.KeyResult{Key: ringKey(id)})
			used := impl.UseKey(with, id)
			if used.Code != impl.OK || used.Ring.Primary != id || with.Primary != r.Primary {
				t.Errorf("what was installed cannot be used: %v", used)
			}
			checkRing(t, "RemoveKey of what is used", impl.RemoveKey(used.Ring, id), ringCode(impl.ErrState))
			without := impl.RemoveKey(with, id)
			checkRing(t, "RemoveKey of what was installed", without, impl.RingResult{Ring: r})
			checkKey(t, "FindKey of what was removed", impl.FindKey(without.Ring, id), impl.KeyResult{Code: impl.ErrNone})
			checkRing(t, "UseKey of what was removed", impl.UseKey(without.Ring, id), ringCode(impl.ErrNone))
		}
	}
}

// TestRingOverManyTurns holds a ring against the list of Ids that there have to be, turn by turn.
func TestRingOverManyTurns(t *testing.T) {
	ids, primary := []int64{4}, int64(4)
	r := impl.NewRing(ringKey(4)).Ring
	number := uint32(1)
	for range 3000 {
		number = number*1664525 + 1013904223
		op, k := int64(number>>30), impl.Key{Id: int64(number >> 20 & 7)}
		if op == impl.KeyInstall {
			k = ringKey(k.Id)
		}
		there := slices.Contains(ids, k.Id)
		switch {
		case op == impl.KeyInstall && k.Id > 0 && !there && len(ids) < 3:
			ids = append(ids, k.Id)
			slices.Sort(ids)
		case op == impl.KeyUse && there:
			primary = k.Id
		case op == impl.KeyRemove && there && k.Id != primary:
			ids = slices.DeleteFunc(ids, func(id int64) bool { return id == k.Id })
		default:
			if got := impl.TurnRing(r, op, k); got.Code == impl.OK {
				t.Fatalf("op %d by %d turned %v", op, k.Id, r)
			}
			continue
		}
		got := impl.TurnRing(r, op, k)
		checkRing(t, "TurnRing", got, impl.RingResult{Ring: ringOf(primary, ids...)})
		r = got.Ring
	}
}
