package merge_test

import (
	"math"
	"math/rand"
	"slices"
	"testing"

	"leeboard/api"
	"leeboard/denied"
	"leeboard/gate"
	"leeboard/ledger"
	"leeboard/merge"
)

func tap(id, gate, seq, time, zone int) api.Tap {
	return api.Tap{Ticket: id, Gate: gate, Seq: seq, Time: time, Zone: zone}
}

// good is a ledger with each kind of ticket, rides and changes, whose taps rise; behind its lists there is spare room.
func good() api.Ledger {
	l := api.Ledger{
		Tickets: make([]api.Ticket, 0, 20), Taps: make([]api.Tap, 0, 90), Verdicts: make([]int, 0, 90),
	}
	l.Tickets = append(l.Tickets,
		api.Ticket{Id: 3, Kind: api.Single, From: 10, To: 500, Zones: 3},
		api.Ticket{Id: 5, Kind: api.Day, From: 0, To: 9999, Zones: 15},
		api.Ticket{Id: 9, Kind: api.Carnet, From: 0, To: 400, Zones: 7, Rides: 2})
	l.Taps = append(l.Taps,
		tap(3, 0, 1, 20, 1), tap(5, 0, 2, 20, 1), tap(3, 1, 1, 79, 2), tap(5, 1, 2, 80, 2), tap(9, 2, 1, 80, 4), tap(9, 2, 7, 140, 4))
	l.Verdicts = append(l.Verdicts, api.Ride, api.Ride, api.Change, api.Ride, api.Ride, api.Ride)
	return l
}

// taps with spare room behind them.
func taps(l ...api.Tap) []api.Tap {
	return append(make([]api.Tap, 0, 90), l...)
}

// day is a ticket that may do whatever it likes.
func day(id int) api.Ticket {
	return api.Ticket{Id: id, Kind: api.Day, To: 9999, Zones: 15}
}

// busy is a ledger of n rides of one Day, beside a Single that nobody has used.
func busy(n int) api.Ledger {
	l := api.Ledger{Tickets: []api.Ticket{day(10), {Id: 11, Kind: api.Single, To: 9999, Zones: 15}}}
	for i := range n {
		l.Taps = append(l.Taps, tap(10, i%3, i/3+1, 60*i, 1))
		l.Verdicts = append(l.Verdicts, api.Ride)
	}
	return l
}

// crowd of n taps of a ticket, each at a time and with a number of its own, none of which busy has; the last one comes first.
func crowd(id, n int) []api.Tap {
	l := taps()
	for i := range n {
		l = append(l, tap(id, i%3, 99-i/3, 9000-61*i, 2))
	}
	return l
}

func copied(l api.Ledger) api.Ledger {
	return api.Ledger{Tickets: slices.Clone(l.Tickets), Taps: slices.Clone(l.Taps), Verdicts: slices.Clone(l.Verdicts)}
}

func same(a, b api.Ledger) bool {
	return slices.Equal(a.Tickets, b.Tickets) && slices.Equal(a.Taps, b.Taps) && slices.Equal(a.Verdicts, b.Verdicts)
}

// refuses: with an error there is nothing else.
func refuses(t *testing.T, l api.Ledger, more []api.Tap, want api.Errno) {
	t.Helper()
	if y, told, e := merge.Into(l, more); !same(y, api.Ledger{}) || len(told) != 0 || e != want {
		t.Errorf("Into says %+v %v %d, not %d", y, told, e, want)
	}
}

// refusesOrder likewise.
func refusesOrder(t *testing.T, l []api.Tap, want api.Errno) {
	t.Helper()
	if y, e := merge.Order(l); len(y) != 0 || e != want {
		t.Errorf("Order of %d says %v %d, not %d", len(l), y, e, want)
	}
}

// permuted calls with each order of a list.
func permuted(l []api.Tap, call func([]api.Tap)) {
	if len(l) == 0 {
		call(nil)
		return
	}
	for i := range l {
		rest := slices.Delete(slices.Clone(l), i, i+1)
		permuted(rest, func(p []api.Tap) { call(append(slices.Clone(p), l[i])) })
	}
}

// TestG1Rise: time tells ahead of gate, gate ahead of Seq, and nothing else does.
func TestG1Rise(t *testing.T) {
	want := []api.Tap{
		tap(9999, 2, 99, 0, 8), tap(5, 0, 7, 20, 4), tap(4, 0, 8, 20, 2), tap(3, 1, 1, 20, 8), tap(2, 1, 6, 20, 1), tap(1, 0, 1, 9999, 1),
	}
	permuted(want, func(l []api.Tap) {
		if got, e := merge.Order(l); !slices.Equal(got, want) || e != api.OK {
			t.Fatalf("%v: %v %d", l, got, e)
		}
	})
}

// TestG1NothingToOrder: no taps are in order; one is.
func TestG1NothingToOrder(t *testing.T) {
	for _, l := range [][]api.Tap{nil, {}, taps(), {tap(7, 1, 1, 5, 4)}} {
		if got, e := merge.Order(l); !slices.Equal(got, l) || e != api.OK {
			t.Errorf("%v: %v %d", l, got, e)
		}
	}
}

func TestG1Limits(t *testing.T) {
	for _, n := range []int{1, 12, 13, 59, 60, 61, 71, 72} {
		want := crowd(10, n)
		slices.Reverse(want)
		if got, e := merge.Order(crowd(10, n)); !slices.Equal(got, want) || e != api.OK {
			t.Errorf("%d: %v %d", n, got, e)
		}
	}
	for _, n := range []int{73, 74, 132, 5000} {
		refusesOrder(t, make([]api.Tap, n), api.ErrMany)
	}
	refusesOrder(t, crowd(10, 73), api.ErrMany)
}

// wrong taps, and what the check of a tap says of them.
func wrong() map[api.Tap]api.Errno {
	return map[api.Tap]api.Errno{
		{}:                                      api.ErrRange,
		tap(0, 0, 50, 300, 1):                   api.ErrRange,
		tap(10000, 0, 50, 300, 1):               api.ErrRange,
		tap(5, -1, 50, 300, 1):                  api.ErrRange,
		tap(5, 3, 50, 300, 1):                   api.ErrRange,
		tap(5, math.MaxInt, 50, 300, 1):         api.ErrRange,
		tap(5, 0, 0, 300, 1):                    api.ErrRange,
		tap(5, 0, 100, 300, 1):                  api.ErrRange,
		tap(5, 0, math.MinInt, 300, 1):          api.ErrRange,
		tap(5, 0, 50, -1, 1):                    api.ErrRange,
		tap(5, 0, 50, 10000, 1):                 api.ErrRange,
		tap(5, 0, 50, 10000, 3):                 api.ErrRange,
		tap(5, 0, 50, 300, 0):                   api.ErrZone,
		tap(5, 0, 50, 300, 3):                   api.ErrZone,
		tap(5, 0, 50, 300, 16):                  api.ErrZone,
		tap(5, 0, 50, 300, -1):                  api.ErrZone,
		tap(4, 0, 50, 300, math.MaxInt):         api.ErrZone,
		tap(math.MinInt, 0, 50, math.MaxInt, 0): api.ErrRange,
	}
}

// TestG1Wrong: a wrong tap tells, wherever it stands, and though its number may be another one's.
func TestG1Wrong(t *testing.T) {
	for p, want := range wrong() {
		for place := range 4 {
			l := slices.Insert(crowd(10, 3), place, p)
			refusesOrder(t, l, want)
			refusesOrder(t, append(l, l[0]), want)
		}
	}
}

// TestG1ThingByThing: of several wrong taps the first one tells.
func TestG1ThingByThing(t *testing.T) {
	for p, first := range wrong() {
		for q := range wrong() {
			refusesOrder(t, []api.Tap{tap(5, 1, 1, 9, 1), p, tap(5, 1, 2, 9, 1), q}, first)
		}
	}
}

// TestG1Twice: one Gate and Seq are enough, whatever else is another one; one of them is not.
func TestG1Twice(t *testing.T) {
	for _, p := range []api.Tap{tap(5, 0, 1, 100, 1), tap(5, 2, 99, 0, 8), tap(5, 1, 50, 9999, 2)} {
		for _, q := range []api.Tap{p, tap(6, p.Gate, p.Seq, p.Time, p.Zone), tap(p.Ticket, p.Gate, p.Seq, 200, p.Zone), tap(6, p.Gate, p.Seq, 200, 4)} {
			refusesOrder(t, []api.Tap{p, q}, api.ErrTwice)
			refusesOrder(t, []api.Tap{p, tap(5, 0, 70, 150, 1), tap(5, 1, 71, 160, 1), q}, api.ErrTwice)
			refusesOrder(t, append(append(crowd(10, 70), p), q), api.ErrTwice)
		}
		l := []api.Tap{p, p, p, p}
		l[1].Gate = (p.Gate + 1) % 3
		l[2].Seq = p.Seq%99 + 1
		l[3].Gate, l[3].Seq = p.Seq%3, 30
		if got, e := merge.Order(l); len(got) != 4 || e != api.OK {
			t.Errorf("%v: %v %d", l, got, e)
		}
	}
}

// TestG1FirstNamed: of several errors the one that is named first tells.
func TestG1FirstNamed(t *testing.T) {
	p := tap(5, 1, 1, 9, 1)
	zone := tap(5, 1, 1, 9, 7)
	refusesOrder(t, []api.Tap{p, p, zone}, api.ErrZone)
	refusesOrder(t, []api.Tap{p, p, {}}, api.ErrRange)
	refusesOrder(t, append(crowd(10, 72), zone), api.ErrMany)
	refusesOrder(t, append(crowd(10, 72), crowd(10, 1)...), api.ErrMany)
	refusesOrder(t, append(crowd(10, 71), zone), api.ErrZone)
	refusesOrder(t, append(crowd(10, 71), crowd(10, 1)...), api.ErrTwice)
}

// into is a case of Into: what is more, what the ledger has then, and what is told.
type into struct {
	name     string
	more     []api.Tap
	taps     []api.Tap
	verdicts []int
	told     []api.Tap
}

func TestG2Into(t *testing.T) {
	own := good().Taps
	ahead := func(p api.Tap) []api.Tap { return slices.Concat([]api.Tap{p}, own) }
	behind := func(p api.Tap) []api.Tap { return slices.Concat(own, []api.Tap{p}) }
	for _, c := range []into{
		{"nothing", nil, own, []int{1, 1, 2, 1, 1, 1}, nil},
		{"an empty list", []api.Tap{}, own, []int{1, 1, 2, 1, 1, 1}, nil},
		{"earlier than all: a Day's", []api.Tap{tap(5, 2, 50, 0, 8)}, ahead(tap(5, 2, 50, 0, 8)), []int{1, 1, 2, 2, 1, 1, 1}, nil},
		{"just earlier than all: a Day's", []api.Tap{tap(5, 2, 50, 19, 8)}, ahead(tap(5, 2, 50, 19, 8)), []int{1, 1, 2, 2, 1, 1, 1}, nil},
		{"earlier than all: a Single's, whose last one is left out", []api.Tap{tap(3, 2, 50, 19, 1)},
			slices.Concat([]api.Tap{tap(3, 2, 50, 19, 1)}, own[:2], own[3:]), []int{1, 2, 1, 1, 1, 1}, own[2:3]},
		{"earlier than all: a Carnet's, whose last one is left out", []api.Tap{tap(9, 0, 50, 0, 1)},
			slices.Concat([]api.Tap{tap(9, 0, 50, 0, 1)}, own[:5]), []int{1, 1, 1, 2, 1, 1}, own[5:]},
		{"between: a Carnet's, so a ride is a change", []api.Tap{tap(9, 0, 50, 21, 1)},
			slices.Concat(own[:2], []api.Tap{tap(9, 0, 50, 21, 1)}, own[2:]), []int{1, 1, 1, 2, 1, 2, 1}, nil},
		{"at a time that is there, at a gate ahead", []api.Tap{tap(5, 0, 50, 80, 1)},
			slices.Concat(own[:3], []api.Tap{tap(5, 0, 50, 80, 1)}, own[3:]), []int{1, 1, 2, 1, 2, 1, 1}, nil},
		{"behind all: a Day's", []api.Tap{tap(5, 0, 3, 9999, 1)}, behind(tap(5, 0, 3, 9999, 1)), []int{1, 1, 2, 1, 1, 1, 1}, nil},
		{"behind all: a Carnet goes on", []api.Tap{tap(9, 0, 3, 199, 1)}, behind(tap(9, 0, 3, 199, 1)), []int{1, 1, 2, 1, 1, 1, 2}, nil},
		{"behind all: a Carnet that is spent", []api.Tap{tap(9, 0, 3, 200, 1)}, own, []int{1, 1, 2, 1, 1, 1}, []api.Tap{tap(9, 0, 3, 200, 1)}},
		{"a Single that is spent", []api.Tap{tap(3, 2, 3, 80, 1)}, own, []int{1, 1, 2, 1, 1, 1}, []api.Tap{tap(3, 2, 3, 80, 1)}},
		{"too early", []api.Tap{tap(3, 2, 3, 9, 1)}, own, []int{1, 1, 2, 1, 1, 1}, []api.Tap{tap(3, 2, 3, 9, 1)}},
		{"too late", []api.Tap{tap(9, 0, 3, 401, 1)}, own, []int{1, 1, 2, 1, 1, 1}, []api.Tap{tap(9, 0, 3, 401, 1)}},
		{"in another zone", []api.Tap{tap(3, 2, 3, 30, 4)}, own, []int{1, 1, 2, 1, 1, 1}, []api.Tap{tap(3, 2, 3, 30, 4)}},
		{"no ticket", []api.Tap{tap(4, 2, 3, 30, 4)}, own, []int{1, 1, 2, 1, 1, 1}, []api.Tap{tap(4, 2, 3, 30, 4)}},
		{"told in order", []api.Tap{tap(4, 1, 9, 141, 1), tap(3, 2, 9, 140, 4), tap(9, 0, 9, 0, 1), tap(9999, 2, 8, 141, 1), tap(1, 2, 6, 140, 1), tap(3, 1, 8, 9, 1)},
			slices.Concat([]api.Tap{tap(9, 0, 9, 0, 1)}, own[:5]), []int{1, 1, 1, 2, 1, 1},
			[]api.Tap{tap(3, 1, 8, 9, 1), tap(1, 2, 6, 140, 1), own[5], tap(3, 2, 9, 140, 4), tap(4, 1, 9, 141, 1), tap(9999, 2, 8, 141, 1)}},
	} {
		want := api.Ledger{Tickets: good().Tickets, Taps: c.taps, Verdicts: c.verdicts}
		y, told, e := merge.Into(good(), c.more)
		if !same(y, want) || !slices.Equal(told, c.told) || e != api.OK || ledger.Check(y) != api.OK {
			t.Errorf("%s: %+v %v %d, not %+v %v", c.name, y, told, e, want, c.told)
		}
	}
}

// TestG2OwnRise: a ledger whose own taps of one time do not rise is a right one; behind Into they do, and what they are is judged anew.
func TestG2OwnRise(t *testing.T) {
	l := api.Ledger{
		Tickets:  []api.Ticket{day(5), day(6)},
		Taps:     []api.Tap{tap(5, 2, 1, 20, 1), tap(5, 1, 9, 20, 2), tap(6, 1, 8, 20, 4), tap(5, 0, 99, 20, 8)},
		Verdicts: []int{api.Ride, api.Change, api.Ride, api.Change},
	}
	want := api.Ledger{
		Tickets:  l.Tickets,
		Taps:     []api.Tap{tap(5, 0, 99, 20, 8), tap(6, 1, 8, 20, 4), tap(5, 1, 9, 20, 2), tap(5, 2, 1, 20, 1)},
		Verdicts: []int{api.Ride, api.Ride, api.Change, api.Change},
	}
	if y, told, e := merge.Into(l, nil); !same(y, want) || len(told) != 0 || e != api.OK {
		t.Errorf("%+v %v %d", y, told, e)
	}
}

// TestG2Nothing: with no tickets every tap is told; with no taps nothing is.
func TestG2Nothing(t *testing.T) {
	if y, told, e := merge.Into(api.Ledger{}, nil); !same(y, api.Ledger{}) || len(told) != 0 || e != api.OK {
		t.Errorf("nothing: %+v %v %d", y, told, e)
	}
	want := crowd(10, 12)
	slices.Reverse(want)
	if y, told, e := merge.Into(api.Ledger{}, crowd(10, 12)); !same(y, api.Ledger{}) || !slices.Equal(told, want) || e != api.OK {
		t.Errorf("no tickets: %+v %v %d", y, told, e)
	}
	sold := api.Ledger{Tickets: good().Tickets}
	if y, told, e := merge.Into(sold, nil); !same(y, sold) || len(told) != 0 || e != api.OK {
		t.Errorf("no taps: %+v %v %d", y, told, e)
	}
}

// TestG2DayRides: a Day rides as often as it likes, and a tap in between makes of a ride a change.
func TestG2DayRides(t *testing.T) {
	y, told, e := merge.Into(busy(40), []api.Tap{tap(10, 2, 90, 60*39+30, 8), tap(10, 0, 91, 0, 1), tap(10, 1, 92, 60*40, 1)})
	if len(y.Taps) != 43 || len(told) != 0 || e != api.OK {
		t.Fatalf("%+v %v %d", y, told, e)
	}
	if n, e := ledger.Rides(y, 10); n != 41 || e != api.OK {
		t.Errorf("%d rides, %d", n, e)
	}
	y, _, e = merge.Into(busy(40), []api.Tap{tap(10, 1, 90, 1, 8), tap(10, 1, 91, 59, 8), tap(10, 1, 92, 61, 8)})
	if n, _ := ledger.Rides(y, 10); n != 40 || e != api.OK || !slices.Equal(y.Verdicts[:6], []int{1, 2, 2, 1, 2, 1}) {
		t.Errorf("%d rides, %v %d", n, y.Verdicts, e)
	}
}

// TestG2Limits: how many more there may be, and how many in all; those that are told take no room.
func TestG2Limits(t *testing.T) {
	late := busy(60)
	late.Tickets[0].To = 60 * 59
	one := busy(59)
	one.Taps = append(one.Taps, tap(11, 2, 60, 60*58+1, 1))
	one.Verdicts = append(one.Verdicts, api.Ride)
	for _, c := range []struct {
		name          string
		ledger        api.Ledger
		more          []api.Tap
		entered, told int
		want          api.Errno
	}{
		{"twelve more, and room", busy(48), crowd(10, 12), 60, 0, api.OK},
		{"twelve more, and room for eleven", busy(49), crowd(10, 12), 0, 0, api.ErrMany},
		{"one more, and room", busy(59), crowd(10, 1), 60, 0, api.OK},
		{"one more, and no room", busy(60), crowd(10, 1), 0, 0, api.ErrMany},
		{"one earlier, and no room", busy(60), []api.Tap{tap(10, 0, 99, 0, 1)}, 0, 0, api.ErrMany},
		{"thirteen more", busy(0), crowd(10, 13), 0, 0, api.ErrMany},
		{"thirteen more of no ticket", busy(0), crowd(12, 13), 0, 0, api.ErrMany},
		{"twelve more of no ticket, and no room", busy(60), crowd(12, 12), 60, 12, api.OK},
		{"twelve more that are too late, and no room", late, crowd(10, 12), 60, 12, api.OK},
		{"a Single often, and room for one", busy(59), crowd(11, 12), 60, 11, api.OK},
		{"a Single often, and no room", busy(60), crowd(11, 12), 0, 0, api.ErrMany},
		{"one more, and one that is left out", one, []api.Tap{tap(11, 2, 61, 0, 1)}, 60, 1, api.OK},
		{"nothing more, and no room", busy(60), nil, 60, 0, api.OK},
	} {
		y, told, e := merge.Into(c.ledger, c.more)
		if len(y.Taps) != c.entered || len(y.Verdicts) != c.entered || len(told) != c.told || e != c.want {
			t.Errorf("%s: %d and %d taps, %d", c.name, len(y.Taps), len(told), e)
		}
		if e == api.OK && (ledger.Check(y) != api.OK || !slices.Equal(y.Tickets, c.ledger.Tickets)) || e != api.OK && len(y.Tickets) != 0 {
			t.Errorf("%s: %+v", c.name, y)
		}
	}
}

// TestG2WrongLedger: what is wrong of the ledger tells ahead of all else.
func TestG2WrongLedger(t *testing.T) {
	for _, c := range []struct {
		name string
		want api.Errno
		do   func(*api.Ledger)
	}{
		{"too many taps", api.ErrMany, func(l *api.Ledger) { *l = busy(61) }},
		{"a verdict more", api.ErrMany, func(l *api.Ledger) { l.Verdicts = append(l.Verdicts, api.Ride) }},
		{"no verdicts", api.ErrMany, func(l *api.Ledger) { l.Verdicts = nil }},
		{"a wrong ticket", api.ErrForm, func(l *api.Ledger) { l.Tickets[0].Rides = 1 }},
		{"ids that fall", api.ErrState, func(l *api.Ledger) { l.Tickets[2].Id = 4 }},
		{"a wrong tap", api.ErrZone, func(l *api.Ledger) { l.Taps[0].Zone = 3 }},
		{"a tap of no ticket", api.ErrNone, func(l *api.Ledger) { l.Taps[5].Ticket = 4 }},
		{"a number twice", api.ErrTwice, func(l *api.Ledger) { l.Taps[5].Seq = 1 }},
		{"a verdict Refused", api.ErrKind, func(l *api.Ledger) { l.Verdicts[4] = api.Refused }},
		{"taps that fall", api.ErrState, func(l *api.Ledger) { l.Taps[4].Time = 79 }},
		{"a Change that is a Ride", api.ErrState, func(l *api.Ledger) { l.Verdicts[0] = api.Change }},
	} {
		for _, more := range [][]api.Tap{nil, make([]api.Tap, 13), {{}}, {tap(5, 0, 1, 20, 3)}, good().Taps, {tap(5, 2, 50, 500, 8)}} {
			l := good()
			c.do(&l)
			t.Run(c.name, func(t *testing.T) { refuses(t, l, more, c.want) })
		}
	}
}

// TestG2WrongTaps: what Order says of both tells; one number may not stand in both.
func TestG2WrongTaps(t *testing.T) {
	for p, want := range wrong() {
		refuses(t, good(), []api.Tap{p}, want)
		refuses(t, good(), []api.Tap{tap(5, 2, 50, 500, 8), p}, want)
		refuses(t, api.Ledger{}, []api.Tap{p, {}}, want)
	}
	for _, p := range good().Taps {
		refuses(t, good(), []api.Tap{p}, api.ErrTwice)
		refuses(t, good(), []api.Tap{tap(5, 2, 50, 500, 8), tap(1, p.Gate, p.Seq, 0, 8)}, api.ErrTwice)
	}
	refuses(t, good(), []api.Tap{tap(5, 2, 50, 500, 8), tap(3, 2, 50, 30, 1)}, api.ErrTwice)
	refuses(t, api.Ledger{}, []api.Tap{tap(5, 2, 50, 500, 8), tap(3, 2, 50, 30, 1)}, api.ErrTwice)
}

// TestG2FirstNamed: of several errors the one that is named first tells.
func TestG2FirstNamed(t *testing.T) {
	zone := tap(10, 0, 1, 0, 7)
	again := tap(10, 0, 1, 0, 1)
	fits := tap(10, 0, 98, 0, 1)
	for set := 1; set < 16; set++ {
		l, more, want := busy(60), []api.Tap{fits}, api.ErrMany
		if set&8 != 0 {
			more, want = append(more, again), api.ErrTwice
		}
		if set&4 != 0 {
			more, want = append(more, zone), api.ErrZone
		}
		if set&2 != 0 {
			more, want = append(more, crowd(10, 12)...), api.ErrMany
		}
		if set&1 != 0 {
			l.Verdicts[59], want = api.Refused, api.ErrKind
		}
		refuses(t, l, more, want)
	}
}

// whole is a ledger with the spare room behind its lists.
func whole(l api.Ledger) api.Ledger {
	return api.Ledger{Tickets: l.Tickets[:cap(l.Tickets)], Taps: l.Taps[:cap(l.Taps)], Verdicts: l.Verdicts[:cap(l.Verdicts)]}
}

// scrawl over all that a ledger holds, the spare room too.
func scrawl(l api.Ledger) {
	w := whole(l)
	for i := range w.Tickets {
		w.Tickets[i].Id = -7
	}
	scrawlTaps(w.Taps)
	for i := range w.Verdicts {
		w.Verdicts[i] = -7
	}
}

func scrawlTaps(l []api.Tap) {
	l = l[:cap(l)]
	for i := range l {
		l[i].Seq = -7
	}
}

// TestG1NewMemory: taps that are handed in are only read, and those that come out are the caller's.
func TestG1NewMemory(t *testing.T) {
	for _, n := range []int{1, 2, 12, 72} {
		l := crowd(10, n)
		before := slices.Clone(l[:cap(l)])
		y, e := merge.Order(l)
		if e != api.OK || !slices.Equal(l[:cap(l)], before) {
			t.Errorf("%d: Order changed what it was handed (%d)", n, e)
		}
		first := slices.Clone(y)
		scrawlTaps(y)
		if !slices.Equal(l[:cap(l)], before) {
			t.Errorf("%d: Order hands out what it was handed", n)
		}
		again, _ := merge.Order(l)
		scrawlTaps(l)
		if !slices.Equal(again, first) {
			t.Errorf("%d: Order keeps what it was handed, or what it answered", n)
		}
	}
}

// TestG2NewMemory: the ledger and the taps that are handed in are only read; the ledger and the taps that come out are the caller's, and share nothing with each other.
func TestG2NewMemory(t *testing.T) {
	for name, plain := range map[string][]api.Tap{
		"nothing":      nil,
		"one entered":  {tap(5, 2, 50, 500, 8)},
		"one earlier":  {tap(5, 2, 50, 0, 8)},
		"one told":     {tap(4, 2, 50, 500, 8)},
		"several told": {tap(4, 2, 50, 500, 8), tap(9, 0, 50, 0, 1), tap(3, 2, 51, 19, 1), tap(5, 2, 52, 500, 8), tap(3, 1, 60, 2, 1)},
	} {
		for _, entered := range []int{0, 1, 6} {
			l, more := good(), taps(plain...)
			l.Taps, l.Verdicts = l.Taps[:entered], l.Verdicts[:entered]
			ledgerBefore, moreBefore := copied(whole(l)), slices.Clone(more[:cap(more)])
			unchanged := func() bool {
				return same(whole(l), ledgerBefore) && slices.Equal(more[:cap(more)], moreBefore)
			}
			y, told, e := merge.Into(l, more)
			if e != api.OK || !unchanged() {
				t.Errorf("%s: Into changed what it was handed (%d)", name, e)
			}
			firstLedger, firstTold := copied(y), slices.Clone(told)
			scrawl(y)
			if !slices.Equal(told, firstTold) {
				t.Errorf("%s: the answers of Into share memory", name)
			}
			scrawlTaps(told)
			if !unchanged() {
				t.Errorf("%s: Into hands out what it was handed", name)
			}
			y, told, _ = merge.Into(l, more)
			scrawl(l)
			scrawlTaps(more)
			if !same(y, firstLedger) || !slices.Equal(told, firstTold) {
				t.Errorf("%s: Into keeps what it was handed, or what it answered", name)
			}
		}
	}
}

// TestG3Example: two gates that are alone let one Single through; whichever tells first, the first ride is in the ledger, the second is told.
func TestG3Example(t *testing.T) {
	single := api.Ticket{Id: 7, Kind: api.Single, To: 500, Zones: 15}
	told := map[int][]api.Tap{}
	for id, time := range map[int]int{0: 20, 1: 90} {
		g, _, _ := gate.Sync(api.Gate{Id: id, Zone: 1}, api.Denied{}, 10)
		g, _, _ = gate.Tap(g, single, time)
		_, told[id], _ = gate.Sync(g, api.Denied{}, 100)
	}
	for _, order := range [][]int{{0, 1}, {1, 0}} {
		l := api.Ledger{Tickets: []api.Ticket{single}}
		var out []api.Tap
		for _, id := range order {
			y, left, e := merge.Into(l, told[id])
			if e != api.OK {
				t.Fatal(e)
			}
			l, out = y, append(out, left...)
		}
		if !slices.Equal(l.Taps, told[0]) || !slices.Equal(l.Verdicts, []int{api.Ride}) || !slices.Equal(out, told[1]) {
			t.Errorf("%v: %+v %v", order, l, out)
		}
	}
}

// TestP2Later: ledgers, lists and gates that were answered, and then changed, change nothing that a later call answers.
func TestP2Later(t *testing.T) {
	play := func(spoil bool) (api.Ledger, []api.Tap, api.Gate) {
		list, _ := denied.Add(api.Denied{}, 77)
		g, _, _ := gate.Sync(api.Gate{Id: 2, Zone: 1, Seq: 40}, list, 150)
		let, _, _ := gate.Tap(g, day(5), 160)
		spent, told, _ := gate.Sync(let, list, 170)
		l, out, e := merge.Into(good(), told)
		if e != api.OK || len(told) != 1 || len(out) != 0 {
			t.Fatalf("%v %v %d", told, out, e)
		}
		kept := copied(l)
		if spoil {
			for _, x := range []api.Gate{g, let, spent} {
				scrawlTaps(x.Alone)
				clear(x.Denied.Ids)
			}
			clear(list.Ids)
			scrawlTaps(told)
			scrawl(l)
		}
		y, out, _ := merge.Into(kept, []api.Tap{tap(9, 0, 50, 0, 1)})
		again, _, _ := gate.Sync(api.Gate{Id: 2, Zone: 1, Seq: 40}, api.Denied{Version: 1, Ids: []int{77}}, 150)
		return y, out, again
	}
	a, told, g := play(false)
	b, out, h := play(true)
	if !same(a, b) || !slices.Equal(told, out) || len(out) != 1 || !slices.Equal(g.Denied.Ids, h.Denied.Ids) || len(h.Denied.Ids) != 1 {
		t.Errorf("%+v %v %+v, then %+v %v %+v", a, told, g, b, out, h)
	}
}

// model works out by itself what a ledger of tickets has of taps, and what is told.
func model(tickets []api.Ticket, all []api.Tap) (api.Ledger, []api.Tap) {
	key := func(p api.Tap) int { return 1000*p.Time + 100*p.Gate + p.Seq }
	all = slices.Clone(all)
	slices.SortFunc(all, func(p, q api.Tap) int { return key(p) - key(q) })
	l := api.Ledger{Tickets: tickets}
	var told []api.Tap
	last, left := map[int]int{}, map[int]int{}
	sold := map[int]api.Ticket{}
	for _, x := range tickets {
		sold[x.Id], left[x.Id], last[x.Id] = x, map[int]int{api.Single: 1, api.Day: 1000, api.Carnet: x.Rides}[x.Kind], -1000
	}
	for _, p := range all {
		x := sold[p.Ticket]
		change := p.Time-last[x.Id] < 60
		if x.Id == 0 || p.Time < x.From || p.Time > x.To || x.Zones/p.Zone%2 == 0 || !change && left[x.Id] == 0 {
			told = append(told, p)
			continue
		}
		l.Taps = append(l.Taps, p)
		if change {
			l.Verdicts = append(l.Verdicts, api.Change)
			continue
		}
		l.Verdicts = append(l.Verdicts, api.Ride)
		last[x.Id] = p.Time
		left[x.Id]--
	}
	return l, told
}

// some tickets of ids from 1 on, not all of them.
func some(r *rand.Rand) []api.Ticket {
	var tickets []api.Ticket
	for id := 1; id <= 12; id++ {
		x := api.Ticket{Id: id, Kind: 1 + r.Intn(3), From: r.Intn(100), Zones: 1 + r.Intn(15) | 1<<r.Intn(4)}
		x.To = x.From + 100 + r.Intn(600)
		if x.Kind == api.Carnet {
			x.Rides = 2 + r.Intn(3)
		}
		if r.Intn(8) > 0 {
			tickets = append(tickets, x)
		}
	}
	return tickets
}

// batches of taps at gates that are alone, no number twice; at most 12 each.
func batches(r *rand.Rand) [][]api.Tap {
	var out [][]api.Tap
	seq := [3]int{}
	for range 1 + r.Intn(6) {
		gate := r.Intn(3)
		var l []api.Tap
		for range r.Intn(13) {
			seq[gate]++
			l = append(l, tap(1+r.Intn(12), gate, seq[gate], r.Intn(600), 1<<r.Intn(4)))
		}
		out = append(out, l)
	}
	return out
}

func sorted(l []api.Tap) []api.Tap {
	y, _ := merge.Order(l)
	return y
}

// TestG3OrderDoesNotMatter: in whatever order gates tell, and their taps come, the ledger and what was told in all are the same, as an own count says; and no tap is lost.
func TestG3OrderDoesNotMatter(t *testing.T) {
	r := rand.New(rand.NewSource(7))
	toldOwn, toldMore := 0, 0
	for range 400 {
		tickets, parts := some(r), batches(r)
		all := slices.Concat(parts...)
		want, wantTold := model(tickets, all)
		if len(want.Taps) > 60 {
			t.Fatalf("%d taps: the test is wrong", len(want.Taps))
		}
		for range 4 {
			r.Shuffle(len(parts), func(i, j int) { parts[i], parts[j] = parts[j], parts[i] })
			l := api.Ledger{Tickets: tickets}
			var told []api.Tap
			for _, more := range parts {
				r.Shuffle(len(more), func(i, j int) { more[i], more[j] = more[j], more[i] })
				now, nowTold := model(tickets, slices.Concat(l.Taps, more))
				y, out, e := merge.Into(l, more)
				if !same(y, now) || !slices.Equal(out, nowTold) || e != api.OK || ledger.Check(y) != api.OK {
					t.Fatalf("%+v, %v: %+v %v %d, not %+v %v", l, more, y, out, e, now, nowTold)
				}
				if got := sorted(slices.Concat(y.Taps, out)); !slices.Equal(got, sorted(slices.Concat(l.Taps, more))) {
					t.Fatalf("%+v, %v: %+v %v", l, more, y, out)
				}
				for _, p := range out {
					if slices.Contains(more, p) {
						toldMore++
					} else {
						toldOwn++
					}
				}
				l, told = y, append(told, out...)
			}
			if !same(l, want) || !slices.Equal(sorted(told), wantTold) {
				t.Fatalf("%+v %v, not %+v %v", l, told, want, wantTold)
			}
		}
	}
	if toldOwn < 100 || toldMore < 100 {
		t.Errorf("%d and %d were told: that tells little", toldOwn, toldMore)
	}
}

// TestP3SameAgain: a call changes nothing that a later one could tell.
func TestP3SameAgain(t *testing.T) {
	more := []api.Tap{tap(9, 0, 50, 0, 1), tap(4, 2, 50, 500, 8)}
	a, told, e := merge.Into(good(), more)
	merge.Into(busy(60), crowd(11, 12))
	merge.Into(busy(60), make([]api.Tap, 12))
	merge.Order(crowd(3, 72))
	b, out, f := merge.Into(good(), more)
	if !same(a, b) || !slices.Equal(told, out) || e != f {
		t.Errorf("%+v %v %d, then %+v %v %d", a, told, e, b, out, f)
	}
}
