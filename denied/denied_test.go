package denied_test

import (
	"math"
	"math/rand"
	"slices"
	"testing"

	"leeboard/api"
	"leeboard/denied"
)

// list of ids, with spare room behind them.
func list(version int, ids ...int) api.Denied {
	d := api.Denied{Version: version, Ids: make([]int, 0, len(ids)+5)}
	d.Ids = append(d.Ids, ids...)
	return d
}

// tens are n ids: 10, 20 and so on.
func tens(n int) []int {
	var ids []int
	for i := range n {
		ids = append(ids, 10*(i+1))
	}
	return ids
}

func same(a, b api.Denied) bool {
	return a.Version == b.Version && slices.Equal(a.Ids, b.Ids)
}

// refuses: each call tells of a list's fault ahead of all else.
func refuses(t *testing.T, d api.Denied, want api.Errno) {
	t.Helper()
	if got := denied.Check(d); got != want {
		t.Errorf("Check says %d, not %d", got, want)
	}
	for _, id := range []int{5, 0} {
		if y, e := denied.Add(d, id); !same(y, api.Denied{}) || e != want {
			t.Errorf("Add of %d says %v %d, not %d", id, y, e, want)
		}
		if is, e := denied.Has(d, id); is || e != want {
			t.Errorf("Has of %d says %v %d, not %d", id, is, e, want)
		}
	}
	if y, e := denied.Newer(d, list(9, 5)); !same(y, api.Denied{}) || e != want {
		t.Errorf("Newer, as the first one, says %v %d, not %d", y, e, want)
	}
	if y, e := denied.Newer(list(9, 5), d); !same(y, api.Denied{}) || e != want {
		t.Errorf("Newer, as the second one, says %v %d, not %d", y, e, want)
	}
}

func TestE1Good(t *testing.T) {
	for name, d := range map[string]api.Denied{
		"nothing":                      {},
		"an empty list":                {Ids: []int{}},
		"nothing, of a version":        list(7),
		"nothing, of the last version": list(999),
		"one id":                       list(1, 5),
		"the least and the greatest":   list(2, 1, 9999),
		"side by side":                 list(9, 4, 5, 6),
		"as many as may be":            list(12, tens(12)...),
		"as many, of the last version": list(999, tens(12)...),
	} {
		if got := denied.Check(d); got != api.OK {
			t.Errorf("%s: %d", name, got)
		}
	}
}

func TestE1Faults(t *testing.T) {
	for _, c := range []struct {
		name string
		list api.Denied
		want api.Errno
	}{
		{"a version below 0", list(-1), api.ErrRange},
		{"a version too great", list(1000), api.ErrRange},
		{"the least version", list(math.MinInt), api.ErrRange},
		{"the greatest version", list(math.MaxInt), api.ErrRange},
		{"too many", list(20, tens(13)...), api.ErrMany},
		{"far too many", list(20, tens(900)...), api.ErrMany},
		{"id 0", list(9, 0), api.ErrRange},
		{"an id below 0", list(9, -5, 5), api.ErrRange},
		{"an id too great", list(9, 5, 10000), api.ErrRange},
		{"the least number", list(9, 5, math.MinInt), api.ErrRange},
		{"the greatest number", list(9, math.MaxInt), api.ErrRange},
		{"two alike", list(9, 5, 5), api.ErrState},
		{"two alike at the end", list(9, 1, 2, 9999, 9999), api.ErrState},
		{"one that falls", list(9, 6, 5), api.ErrState},
		{"one that falls behind the first one's", list(9, 6, 9, 7), api.ErrState},
		{"a version that is less than how many there are", list(2, 3, 5, 9), api.ErrState},
		{"version 0, and an id", list(0, 5), api.ErrState},
		{"version 11 of twelve", list(11, tens(12)...), api.ErrState},
	} {
		t.Run(c.name, func(t *testing.T) { refuses(t, c.list, c.want) })
	}
}

func TestE1FirstNamed(t *testing.T) {
	for _, c := range []struct {
		name string
		list api.Denied
		want api.Errno
	}{
		{"version, many, all ids wrong", list(-1, make([]int, 13)...), api.ErrRange},
		{"version, many", list(1000, tens(13)...), api.ErrRange},
		{"version, an order", list(-1, 6, 5), api.ErrRange},
		{"many, all ids wrong", list(9, make([]int, 13)...), api.ErrMany},
		{"many, an order", list(20, append([]int{77}, tens(12)...)...), api.ErrMany},
		{"many, and less a version", list(12, tens(13)...), api.ErrMany},
		{"an id that is none does not rise", list(9, 5, 0), api.ErrRange},
		{"an id that is none, ahead of an order", list(9, 10000, 5), api.ErrRange},
		{"an order, ahead of an id that is none", list(9, 6, 5, 0), api.ErrState},
		{"two alike, ahead of an id that is too great", list(9, 5, 5, 10000), api.ErrState},
		{"an id that is none, and less a version", list(1, 5, 10000), api.ErrRange},
		{"an id that is none, and version 0", list(0, 0), api.ErrRange},
	} {
		t.Run(c.name, func(t *testing.T) { refuses(t, c.list, c.want) })
	}
}

func TestE1Add(t *testing.T) {
	for _, c := range []struct {
		name string
		list api.Denied
		id   int
		want []int
	}{
		{"to nothing", api.Denied{}, 5, []int{5}},
		{"to an empty list", list(7), 5, []int{5}},
		{"ahead", list(7, 3, 5), 1, []int{1, 3, 5}},
		{"between", list(7, 3, 5), 4, []int{3, 4, 5}},
		{"behind", list(7, 3, 5), 9999, []int{3, 5, 9999}},
		{"as many as there are versions", list(2, 3, 5), 6, []int{3, 5, 6}},
		{"to the last version", list(998, 3), 2, []int{2, 3}},
		{"the twelfth", list(11, tens(11)...), 120, tens(12)},
	} {
		want := api.Denied{Version: c.list.Version + 1, Ids: c.want}
		y, e := denied.Add(c.list, c.id)
		if !same(y, want) || e != api.OK || denied.Check(y) != api.OK {
			t.Errorf("%s: %v %d, not %v", c.name, y, e, want)
		}
	}
}

func TestE1AddErrors(t *testing.T) {
	full := list(20, tens(12)...)
	for _, c := range []struct {
		name string
		list api.Denied
		id   int
		want api.Errno
	}{
		{"id 0", list(7, 3, 5), 0, api.ErrRange},
		{"an id below 0", list(7, 3, 5), -3, api.ErrRange},
		{"an id too great", list(7, 3, 5), 10000, api.ErrRange},
		{"the least number", list(7, 3, 5), math.MinInt, api.ErrRange},
		{"the greatest number", list(7, 3, 5), math.MaxInt, api.ErrRange},
		{"the first one again", list(7, 3, 5, 9), 3, api.ErrTwice},
		{"a middle one again", list(7, 3, 5, 9), 5, api.ErrTwice},
		{"the last one again", list(7, 3, 5, 9), 9, api.ErrTwice},
		{"no room", full, 77, api.ErrMany},
		{"no room, and no id", full, 0, api.ErrRange},
		{"no room, and twice", full, 120, api.ErrTwice},
		{"no version left", list(999, 3), 77, api.ErrMany},
		{"no version left, nothing denied", list(999), 77, api.ErrMany},
		{"no version left, and no id", list(999, 3), 10000, api.ErrRange},
		{"no version left, and twice", list(999, 3), 3, api.ErrTwice},
		{"neither room nor a version", list(999, tens(12)...), 77, api.ErrMany},
	} {
		if y, e := denied.Add(c.list, c.id); !same(y, api.Denied{}) || e != c.want {
			t.Errorf("%s: %v %d, not %d", c.name, y, e, c.want)
		}
	}
}

func TestE1Newer(t *testing.T) {
	for _, c := range []struct {
		name       string
		a, b, want api.Denied
	}{
		{"nothing and nothing", api.Denied{}, api.Denied{}, api.Denied{}},
		{"the first one", list(4, 1, 2), list(3, 3), list(4, 1, 2)},
		{"the second one", list(3, 3), list(4, 1, 2), list(4, 1, 2)},
		{"the greater version, though it has less", list(5, 1, 2, 3), list(6), list(6)},
		{"the greater version, though it comes first and has less", list(6), list(5, 1, 2, 3), list(6)},
		{"versions alike", list(4, 1, 2), list(4, 7, 8, 9), list(4, 1, 2)},
		{"versions alike, the other way round", list(4, 7, 8, 9), list(4, 1, 2), list(4, 7, 8, 9)},
		{"the edges", list(0), list(999, tens(12)...), list(999, tens(12)...)},
	} {
		if y, e := denied.Newer(c.a, c.b); !same(y, c.want) || e != api.OK {
			t.Errorf("%s: %v %d, not %v", c.name, y, e, c.want)
		}
	}
}

// TestE1NewerFirstNamed: of two wrong lists the first one tells, whatever is wrong of either.
func TestE1NewerFirstNamed(t *testing.T) {
	wrong := []struct {
		list  api.Denied
		errno api.Errno
	}{
		{list(-1), api.ErrRange}, {list(20, tens(13)...), api.ErrMany}, {list(9, 0), api.ErrRange},
		{list(9, 5, 5), api.ErrState}, {list(0, 5), api.ErrState},
	}
	for _, a := range wrong {
		for _, b := range wrong {
			if y, e := denied.Newer(a.list, b.list); !same(y, api.Denied{}) || e != a.errno {
				t.Errorf("%v and %v: %v %d, not %d", a.list, b.list, y, e, a.errno)
			}
		}
	}
}

func TestE1Has(t *testing.T) {
	ids := []int{1, 5, 6, 500, 9999}
	for id := 1; id <= 9999; id++ {
		if is, e := denied.Has(list(9, ids...), id); is != slices.Contains(ids, id) || e != api.OK {
			t.Errorf("%d: %v %d", id, is, e)
		}
	}
	for _, id := range []int{0, -1, -5, 10000, math.MinInt, math.MaxInt} {
		if is, e := denied.Has(list(9, ids...), id); is || e != api.ErrRange {
			t.Errorf("%d: %v %d", id, is, e)
		}
	}
	if is, e := denied.Has(api.Denied{}, 5); is || e != api.OK {
		t.Errorf("of nothing: %v %d", is, e)
	}
	for _, id := range tens(12) {
		if is, e := denied.Has(list(12, tens(12)...), id); !is || e != api.OK {
			t.Errorf("%d of twelve: %v %d", id, is, e)
		}
	}
}

// scrawl over all that a list holds, the spare room too.
func scrawl(d api.Denied) {
	ids := d.Ids[:cap(d.Ids)]
	for i := range ids {
		ids[i] = -7
	}
}

// TestE1NewMemory: what is handed in is only read, the spare room too, and the answer shares nothing with it.
func TestE1NewMemory(t *testing.T) {
	for name, call := range map[string]func(api.Denied) (api.Denied, api.Errno){
		"Add ahead":     func(d api.Denied) (api.Denied, api.Errno) { return denied.Add(d, 1) },
		"Add behind":    func(d api.Denied) (api.Denied, api.Errno) { return denied.Add(d, 99) },
		"Newer, first":  func(d api.Denied) (api.Denied, api.Errno) { return denied.Newer(d, list(6, 7)) },
		"Newer, second": func(d api.Denied) (api.Denied, api.Errno) { return denied.Newer(list(6, 7), d) },
		"Newer, alike":  func(d api.Denied) (api.Denied, api.Errno) { return denied.Newer(d, d) },
	} {
		d := list(7, 3, 5)
		before := slices.Clone(d.Ids[:cap(d.Ids)])
		y, e := call(d)
		if e != api.OK || !slices.Equal(d.Ids[:cap(d.Ids)], before) {
			t.Errorf("%s changed what it was handed (%d)", name, e)
		}
		kept := slices.Clone(y.Ids)
		scrawl(d)
		if len(y.Ids) < 2 || !slices.Equal(y.Ids, kept) {
			t.Errorf("%s keeps what it was handed", name)
		}
		d = list(7, 3, 5)
		y, _ = call(d)
		scrawl(y)
		if !slices.Equal(d.Ids[:cap(d.Ids)], before) {
			t.Errorf("%s hands out what it was handed", name)
		}
		if y, _ = call(d); !slices.Equal(y.Ids, kept) {
			t.Errorf("%s answers something else when its answer was changed", name)
		}
	}
}

// TestE2StaysDenied: whatever is added, and whichever older list it is held against, what was denied is.
func TestE2StaysDenied(t *testing.T) {
	r := rand.New(rand.NewSource(5))
	for range 300 {
		history := []api.Denied{list(r.Intn(990))}
		added := map[int]int{}
		for range 30 {
			now := history[len(history)-1]
			id := 1 + r.Intn(25)
			y, e := denied.Add(now, id)
			switch {
			case added[id] > 0:
				if e != api.ErrTwice {
					t.Fatalf("%v: %d again: %d", now, id, e)
				}
			case len(added) == 12 || now.Version == 999:
				if e != api.ErrMany {
					t.Fatalf("%v: %d more: %d", now, id, e)
				}
			case e != api.OK || y.Version != now.Version+1 || denied.Check(y) != api.OK:
				t.Fatalf("%v: %d more: %v %d", now, id, y, e)
			default:
				added[id]++
				history = append(history, y)
			}
			stays(t, history, added, r)
		}
	}
}

// stays: the newest list has just what was added, and no older one takes its place.
func stays(t *testing.T, history []api.Denied, added map[int]int, r *rand.Rand) {
	t.Helper()
	now := history[len(history)-1]
	for id := 1; id <= 25; id++ {
		if is, e := denied.Has(now, id); is != (added[id] > 0) || e != api.OK {
			t.Fatalf("%v: %d: %v %d", now, id, is, e)
		}
	}
	old := history[r.Intn(len(history))]
	one, e := denied.Newer(old, now)
	other, f := denied.Newer(now, old)
	if !same(one, now) || !same(other, now) || e != api.OK || f != api.OK {
		t.Fatalf("%v and %v: %v %d, %v %d", old, now, one, e, other, f)
	}
}
