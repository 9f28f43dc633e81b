package ledger_test

import (
	"math"
	"math/rand"
	"slices"
	"testing"

	"leeboard/api"
	"leeboard/ledger"
)

func tap(id, gate, seq, time, zone int) api.Tap {
	return api.Tap{Ticket: id, Gate: gate, Seq: seq, Time: time, Zone: zone}
}

// good is a ledger with each kind of ticket, rides and changes; behind its lists there is spare room.
func good() api.Ledger {
	l := api.Ledger{
		Tickets: make([]api.Ticket, 0, 20), Taps: make([]api.Tap, 0, 20), Verdicts: make([]int, 0, 20),
	}
	l.Tickets = append(l.Tickets,
		api.Ticket{Id: 3, Kind: api.Single, From: 10, To: 500, Zones: 3},
		api.Ticket{Id: 5, Kind: api.Day, From: 0, To: 9999, Zones: 15},
		api.Ticket{Id: 9, Kind: api.Carnet, From: 0, To: 400, Zones: 7, Rides: 2})
	l.Taps = append(l.Taps,
		tap(3, 0, 1, 20, 1), tap(5, 0, 2, 20, 1), tap(3, 1, 1, 79, 2), tap(9, 2, 1, 80, 4), tap(5, 1, 2, 80, 2), tap(9, 2, 7, 140, 4))
	l.Verdicts = append(l.Verdicts, api.Ride, api.Ride, api.Change, api.Ride, api.Ride, api.Ride)
	return l
}

func copied(l api.Ledger) api.Ledger {
	return api.Ledger{Tickets: slices.Clone(l.Tickets), Taps: slices.Clone(l.Taps), Verdicts: slices.Clone(l.Verdicts)}
}

func empty(l api.Ledger) bool {
	return len(l.Tickets) == 0 && len(l.Taps) == 0 && len(l.Verdicts) == 0
}

func same(a, b api.Ledger) bool {
	return slices.Equal(a.Tickets, b.Tickets) && slices.Equal(a.Taps, b.Taps) && slices.Equal(a.Verdicts, b.Verdicts)
}

// days are n tickets that may do whatever they like.
func days(n int) api.Ledger {
	var l api.Ledger
	for i := range n {
		l.Tickets = append(l.Tickets, api.Ticket{Id: 10 * (i + 1), Kind: api.Day, To: 9999, Zones: 15})
	}
	return l
}

// busy is a ledger of n rides of one Day.
func busy(n int) api.Ledger {
	l := days(1)
	for i := range n {
		l.Taps = append(l.Taps, tap(10, i%3, i/3+1, 60*i, 1))
		l.Verdicts = append(l.Verdicts, api.Ride)
	}
	return l
}

// refuses: each call tells of a ledger's fault ahead of all else.
func refuses(t *testing.T, l api.Ledger, want api.Errno) {
	t.Helper()
	if got := ledger.Check(l); got != want {
		t.Errorf("Check says %d, not %d", got, want)
	}
	if y, e := ledger.Sell(l, api.Ticket{}); !empty(y) || e != want {
		t.Errorf("Sell says %+v %d, not %d", y, e, want)
	}
	if y, v, e := ledger.Enter(l, api.Tap{}); !empty(y) || v != 0 || e != want {
		t.Errorf("Enter says %+v %d %d, not %d", y, v, e, want)
	}
	if n, e := ledger.Rides(l, -1); n != 0 || e != want {
		t.Errorf("Rides says %d %d, not %d", n, e, want)
	}
}

func TestD1Good(t *testing.T) {
	for name, l := range map[string]api.Ledger{
		"nothing":           {},
		"empty lists":       {Tickets: []api.Ticket{}, Taps: []api.Tap{}, Verdicts: []int{}},
		"tickets alone":     days(12),
		"as much as may be": busy(60),
		"one of each":       good(),
	} {
		if got := ledger.Check(l); got != api.OK {
			t.Errorf("%s: %d", name, got)
		}
	}
}

func TestD1Faults(t *testing.T) {
	for _, c := range []struct {
		name string
		want api.Errno
		do   func(*api.Ledger)
	}{
		{"too many tickets", api.ErrMany, func(l *api.Ledger) { *l = days(13) }},
		{"too many taps", api.ErrMany, func(l *api.Ledger) { *l = busy(61) }},
		{"a verdict more", api.ErrMany, func(l *api.Ledger) { l.Verdicts = append(l.Verdicts, api.Ride) }},
		{"a verdict less", api.ErrMany, func(l *api.Ledger) { l.Verdicts = l.Verdicts[:5] }},
		{"no verdicts", api.ErrMany, func(l *api.Ledger) { l.Verdicts = nil }},
		{"a wrong ticket", api.ErrRange, func(l *api.Ledger) { l.Tickets[0].Zones = 0 }},
		{"a ticket of no kind", api.ErrKind, func(l *api.Ledger) { l.Tickets[2].Kind = 4 }},
		{"a ticket that ends too early", api.ErrState, func(l *api.Ledger) { l.Tickets[1].From, l.Tickets[1].To = 2, 1 }},
		{"a ticket with rides", api.ErrForm, func(l *api.Ledger) { l.Tickets[0].Rides = 1 }},
		{"two of one id", api.ErrState, func(l *api.Ledger) { l.Tickets[1].Id = 3 }},
		{"ids that fall", api.ErrState, func(l *api.Ledger) { l.Tickets[2].Id = 4 }},
		{"a wrong tap", api.ErrRange, func(l *api.Ledger) { l.Taps[5].Seq = 100 }},
		{"a tap of two zones", api.ErrZone, func(l *api.Ledger) { l.Taps[0].Zone = 3 }},
		{"a tap of no ticket", api.ErrNone, func(l *api.Ledger) { l.Taps[5].Ticket = 4 }},
		{"a number twice", api.ErrTwice, func(l *api.Ledger) { l.Taps[5].Seq = 1 }},
		{"a number twice, of two tickets", api.ErrTwice, func(l *api.Ledger) { l.Taps[1].Seq = 1 }},
		{"a verdict that is none", api.ErrKind, func(l *api.Ledger) { l.Verdicts[4] = 0 }},
		{"a verdict Refused", api.ErrKind, func(l *api.Ledger) { l.Verdicts[4] = api.Refused }},
		{"a verdict below 0", api.ErrKind, func(l *api.Ledger) { l.Verdicts[0] = math.MinInt }},
		{"less in time", api.ErrState, func(l *api.Ledger) { l.Taps[4].Time = 79 }},
		{"a Change that is a Ride", api.ErrState, func(l *api.Ledger) { l.Verdicts[0] = api.Change }},
		{"a Ride that is a Change", api.ErrState, func(l *api.Ledger) { l.Verdicts[2] = api.Ride }},
		{"a Change too late", api.ErrState, func(l *api.Ledger) { l.Taps[2].Time = 80 }},
		{"a ride more than there is", api.ErrState, func(l *api.Ledger) { l.Tickets[2] = api.Ticket{Id: 9, Kind: api.Single, To: 400, Zones: 7} }},
		{"outside its time", api.ErrState, func(l *api.Ledger) { l.Tickets[2].To = 139 }},
		{"outside its zones", api.ErrState, func(l *api.Ledger) { l.Tickets[2].Zones = 3 }},
	} {
		t.Run(c.name, func(t *testing.T) {
			l := good()
			c.do(&l)
			refuses(t, l, c.want)
		})
	}
}

// fault of a ledger or of what is asked of it.
type fault struct {
	errno api.Errno
	make  func(l *api.Ledger, p *api.Tap)
}

// firstNamed goes through all sets of faults, each of which the first one is to tell.
func firstNamed(faults []fault, ask func(set int, first api.Errno, l api.Ledger, p api.Tap)) {
	for set := 1; set < 1<<len(faults); set++ {
		l, p, first := good(), tap(9, 0, 3, 199, 1), api.OK
		for i, f := range faults {
			if set>>i&1 == 0 {
				continue
			}
			f.make(&l, &p)
			if first == api.OK {
				first = f.errno
			}
		}
		ask(set, first, l, p)
	}
}

// TestD1FirstNamed: of several faults of a ledger's lists and of one tap the one that is named first tells.
func TestD1FirstNamed(t *testing.T) {
	firstNamed([]fault{
		{api.ErrMany, func(l *api.Ledger, _ *api.Tap) { l.Verdicts = append(l.Verdicts, 0) }},
		{api.ErrForm, func(l *api.Ledger, _ *api.Tap) { l.Tickets[2].Rides = 10 }},
		{api.ErrState, func(l *api.Ledger, _ *api.Tap) { l.Tickets[2].Id = 2 }},
		{api.ErrZone, func(l *api.Ledger, _ *api.Tap) { l.Taps[4].Zone = 7 }},
		{api.ErrNone, func(l *api.Ledger, _ *api.Tap) { l.Taps[4].Ticket = 4 }},
		{api.ErrTwice, func(l *api.Ledger, _ *api.Tap) { l.Taps[4].Seq = 1 }},
		{api.ErrKind, func(l *api.Ledger, _ *api.Tap) { l.Verdicts[4] = api.Refused }},
		{api.ErrState, func(l *api.Ledger, _ *api.Tap) { l.Taps[4].Time = 30 }},
	}, func(set int, first api.Errno, l api.Ledger, _ api.Tap) {
		if got := ledger.Check(l); got != first {
			t.Errorf("set %b: %d, not %d", set, got, first)
		}
	})
}

// TestD1ThingByThing: of several tickets, and of several taps, the first one that is wrong tells, whatever is wrong of it.
func TestD1ThingByThing(t *testing.T) {
	l := good()
	l.Tickets[1].Id = 3
	l.Tickets[2].Rides = 1
	refuses(t, l, api.ErrState)
	l = good()
	l.Tickets[1].Kind = 0
	l.Tickets[2].Id = 0
	refuses(t, l, api.ErrKind)
	last := []struct {
		errno api.Errno
		do    func(*api.Ledger, int)
	}{
		{api.ErrRange, func(l *api.Ledger, i int) { l.Taps[i].Gate = 3 }},
		{api.ErrZone, func(l *api.Ledger, i int) { l.Taps[i].Zone = 0 }},
		{api.ErrNone, func(l *api.Ledger, i int) { l.Taps[i].Ticket = 1 }},
		{api.ErrTwice, func(l *api.Ledger, i int) { l.Taps[i].Gate, l.Taps[i].Seq = 0, 1 }},
		{api.ErrKind, func(l *api.Ledger, i int) { l.Verdicts[i] = 4 }},
		{api.ErrState, func(l *api.Ledger, i int) { l.Taps[i].Time = 0 }},
	}
	for _, a := range last {
		for _, b := range last {
			l := good()
			a.do(&l, 3)
			b.do(&l, 5)
			refuses(t, l, a.errno)
		}
	}
}

func TestD2Sell(t *testing.T) {
	var l api.Ledger
	for _, id := range []int{50, 1, 9999, 49, 51, 2} {
		y, e := ledger.Sell(l, api.Ticket{Id: id, Kind: api.Single, Zones: 1})
		if e != api.OK || len(y.Tickets) != len(l.Tickets)+1 || ledger.Check(y) != api.OK {
			t.Fatalf("%d: %+v %d", id, y, e)
		}
		l = y
	}
	var ids []int
	for _, x := range l.Tickets {
		ids = append(ids, x.Id)
	}
	if !slices.Equal(ids, []int{1, 2, 49, 50, 51, 9999}) {
		t.Errorf("%v", ids)
	}
}

// TestD2SellKeeps: the ticket is in its place as it is, all else as it was.
func TestD2SellKeeps(t *testing.T) {
	more := api.Ticket{Id: 4, Kind: api.Carnet, From: 7, To: 8, Zones: 9, Rides: 9}
	want := good()
	want.Tickets = slices.Insert(want.Tickets, 1, more)
	if got, e := ledger.Sell(good(), more); !same(got, want) || e != api.OK {
		t.Errorf("%+v %d", got, e)
	}
}

func TestD2SellErrors(t *testing.T) {
	other := api.Ticket{Id: 4, Kind: api.Day, Zones: 1}
	for _, c := range []struct {
		name   string
		ledger api.Ledger
		ticket api.Ticket
		want   api.Errno
	}{
		{"no ticket", good(), api.Ticket{}, api.ErrRange},
		{"no kind", good(), api.Ticket{Id: 4, Kind: 4, Zones: 1}, api.ErrKind},
		{"the first one's id", good(), api.Ticket{Id: 3, Kind: api.Day, Zones: 1}, api.ErrTwice},
		{"the last one's id", good(), api.Ticket{Id: 9, Kind: api.Day, Zones: 1}, api.ErrTwice},
		{"an id twice, and wrong", good(), api.Ticket{Id: 9, Kind: api.Day, Zones: 1, Rides: 2}, api.ErrForm},
		{"room for one", days(11), other, api.OK},
		{"no room", days(12), other, api.ErrMany},
		{"no room, and wrong", days(12), api.Ticket{Id: 4}, api.ErrRange},
		{"no room, and twice", days(12), api.Ticket{Id: 120, Kind: api.Day, Zones: 1}, api.ErrTwice},
	} {
		if y, e := ledger.Sell(c.ledger, c.ticket); e != c.want || e != api.OK && !empty(y) {
			t.Errorf("%s: %+v %d, not %d", c.name, y, e, c.want)
		}
	}
}

func TestD2Enter(t *testing.T) {
	for _, c := range []struct {
		name    string
		tap     api.Tap
		verdict int
		want    api.Errno
	}{
		{"a Day rides", tap(5, 0, 3, 140, 8), api.Ride, api.OK},
		{"just ahead of the last one", tap(5, 0, 3, 139, 8), 0, api.ErrState},
		{"at the last one's time", tap(9, 1, 3, 140, 4), api.Change, api.OK},
		{"a Carnet goes on, just so", tap(9, 0, 3, 199, 1), api.Change, api.OK},
		{"a Carnet that is spent", tap(9, 0, 3, 200, 1), api.Refused, api.ErrSpent},
		{"a Single that is spent", tap(3, 0, 3, 140, 1), api.Refused, api.ErrSpent},
		{"too late", tap(9, 0, 3, 401, 1), api.Refused, api.ErrTime},
		{"in another zone", tap(3, 0, 3, 140, 4), api.Refused, api.ErrZone},
		{"too late, in another zone", tap(3, 0, 3, 501, 4), api.Refused, api.ErrTime},
		{"no tap", api.Tap{}, 0, api.ErrRange},
		{"no zone", tap(5, 0, 3, 140, 6), 0, api.ErrZone},
		{"no ticket", tap(4, 0, 3, 140, 1), 0, api.ErrNone},
		{"a number twice", tap(5, 2, 7, 140, 1), 0, api.ErrTwice},
		{"a number twice, of another ticket", tap(5, 0, 1, 140, 1), 0, api.ErrTwice},
		{"one gate's number at another one", tap(5, 1, 7, 140, 1), api.Ride, api.OK},
		{"a number that is less", tap(5, 2, 6, 140, 1), api.Ride, api.OK},
	} {
		want := good()
		want.Taps, want.Verdicts = append(want.Taps, c.tap), append(want.Verdicts, c.verdict)
		if c.want != api.OK {
			want = api.Ledger{}
		}
		if y, v, e := ledger.Enter(good(), c.tap); !same(y, want) || v != c.verdict || e != c.want {
			t.Errorf("%s: %+v %d %d, not %d %d", c.name, y, v, e, c.verdict, c.want)
		}
	}
}

// TestD2EnterFirstNamed: of several faults of a tap the one that is named first tells; Refused stands beside those of Judge alone.
func TestD2EnterFirstNamed(t *testing.T) {
	firstNamed([]fault{
		{api.ErrForm, func(l *api.Ledger, _ *api.Tap) { l.Tickets[0].Rides = 1 }},
		{api.ErrZone, func(_ *api.Ledger, p *api.Tap) { p.Zone = 7 }},
		{api.ErrNone, func(_ *api.Ledger, p *api.Tap) { p.Ticket = 4 }},
		{api.ErrTwice, func(_ *api.Ledger, p *api.Tap) { p.Seq = 1 }},
		{api.ErrState, func(_ *api.Ledger, p *api.Tap) { p.Time = 139 }},
		{api.ErrTime, func(l *api.Ledger, _ *api.Tap) { l.Tickets[2].To = 140 }},
	}, func(set int, first api.Errno, l api.Ledger, p api.Tap) {
		verdict := 0
		if first == api.ErrTime {
			verdict = api.Refused
		}
		if y, v, e := ledger.Enter(l, p); !empty(y) || v != verdict || e != first {
			t.Errorf("set %b: %+v %d %d, not %d %d", set, y, v, e, verdict, first)
		}
	})
}

func TestD2EnterNoRoom(t *testing.T) {
	next := tap(10, 0, 99, 9999, 1)
	if y, v, e := ledger.Enter(busy(59), next); len(y.Taps) != 60 || v != api.Ride || e != api.OK || ledger.Check(y) != api.OK {
		t.Errorf("the 60th: %d taps, %d %d", len(y.Taps), v, e)
	}
	if y, v, e := ledger.Enter(busy(60), next); !empty(y) || v != 0 || e != api.ErrMany {
		t.Errorf("the 61st: %+v %d %d", y, v, e)
	}
	full := busy(60)
	full.Tickets[0].To = 60 * 59
	if y, v, e := ledger.Enter(full, next); !empty(y) || v != api.Refused || e != api.ErrTime {
		t.Errorf("the 61st, too late: %+v %d %d", y, v, e)
	}
}

func TestD2Rides(t *testing.T) {
	for id, want := range map[int]int{3: 1, 5: 2, 9: 2} {
		if n, e := ledger.Rides(good(), id); n != want || e != api.OK {
			t.Errorf("%d: %d %d, not %d", id, n, e, want)
		}
	}
	for _, id := range []int{0, 1, 4, 8, 10, 10000, -3, math.MinInt, math.MaxInt} {
		if n, e := ledger.Rides(good(), id); n != 0 || e != api.ErrNone {
			t.Errorf("%d: %d %d", id, n, e)
		}
	}
	if n, e := ledger.Rides(days(2), 20); n != 0 || e != api.OK {
		t.Errorf("none yet: %d %d", n, e)
	}
	if n, e := ledger.Rides(busy(60), 10); n != 60 || e != api.OK {
		t.Errorf("as many as may be: %d %d", n, e)
	}
}

// whole is a ledger with the spare room behind its lists.
func whole(l api.Ledger) api.Ledger {
	return api.Ledger{Tickets: l.Tickets[:cap(l.Tickets)], Taps: l.Taps[:cap(l.Taps)], Verdicts: l.Verdicts[:cap(l.Verdicts)]}
}

// scrawl over all that a ledger holds, the spare room too.
func scrawl(l api.Ledger) {
	w := whole(l)
	for i := range w.Tickets {
		w.Tickets[i].Id = -7
	}
	for i := range w.Taps {
		w.Taps[i].Seq = -7
	}
	for i := range w.Verdicts {
		w.Verdicts[i] = -7
	}
}

// TestD2NewMemory: what is handed in is only read, and the answer shares nothing with it.
func TestD2NewMemory(t *testing.T) {
	for name, call := range map[string]func(api.Ledger) api.Ledger{
		"Sell ahead": func(l api.Ledger) api.Ledger {
			y, _ := ledger.Sell(l, api.Ticket{Id: 1, Kind: api.Day, Zones: 1})
			return y
		},
		"Sell behind": func(l api.Ledger) api.Ledger {
			y, _ := ledger.Sell(l, api.Ticket{Id: 99, Kind: api.Day, Zones: 1})
			return y
		},
		"Enter": func(l api.Ledger) api.Ledger { y, _, _ := ledger.Enter(l, tap(5, 0, 3, 140, 8)); return y },
	} {
		l := good()
		before := copied(whole(l))
		y := call(l)
		if !same(whole(l), before) {
			t.Errorf("%s changed what it was handed", name)
		}
		kept := copied(y)
		scrawl(l)
		if len(y.Tickets) == 0 || !same(y, kept) {
			t.Errorf("%s keeps what it was handed", name)
		}
		l = good()
		y = call(l)
		scrawl(y)
		if !same(whole(l), before) {
			t.Errorf("%s hands out what it was handed", name)
		}
		if !same(call(l), kept) {
			t.Errorf("%s answers something else when its answer was changed", name)
		}
	}
}

// model counts by itself what a ledger lets through.
type model struct {
	last, rides map[int]int
	now         int
	numbers     map[[2]int]bool
}

// entered tells what a tap is that is of its form, and remembers it.
func (m *model) entered(x api.Ticket, p api.Tap) (int, api.Errno) {
	number := [2]int{p.Gate, p.Seq}
	switch {
	case m.numbers[number]:
		return 0, api.ErrTwice
	case p.Time < m.now:
		return 0, api.ErrState
	case p.Time < x.From || p.Time > x.To:
		return api.Refused, api.ErrTime
	case x.Zones/p.Zone%2 == 0:
		return api.Refused, api.ErrZone
	}
	verdict := api.Ride
	if last, rode := m.last[x.Id]; rode && p.Time < last+60 {
		verdict = api.Change
	} else if m.rides[x.Id] >= map[int]int{api.Single: 1, api.Day: 100, api.Carnet: x.Rides}[x.Kind] {
		return api.Refused, api.ErrSpent
	} else {
		m.last[x.Id] = p.Time
		m.rides[x.Id]++
	}
	m.now = p.Time
	m.numbers[number] = true
	return verdict, api.OK
}

// TestD3RightWhateverComes: the ledger stays right, no ride comes back, and all is as an own count of it says.
func TestD3RightWhateverComes(t *testing.T) {
	r := rand.New(rand.NewSource(4))
	seen := map[api.Errno]int{}
	for range 300 {
		l := random(r)
		m := &model{last: map[int]int{}, rides: map[int]int{}, numbers: map[[2]int]bool{}}
		time := 0
		for range 59 {
			x := l.Tickets[r.Intn(len(l.Tickets))]
			time += r.Intn(40)
			p := tap(x.Id, r.Intn(3), 1+r.Intn(99), max(0, time-r.Intn(30)), 1<<r.Intn(4))
			verdict, want := m.entered(x, p)
			y, v, e := ledger.Enter(l, p)
			if v != verdict || e != want {
				t.Fatalf("%+v, %+v: %d %d, not %d %d", l, p, v, e, verdict, want)
			}
			seen[e]++
			if e == api.OK {
				l = y
			}
			right(t, l, m)
		}
	}
	for _, e := range []api.Errno{api.OK, api.ErrTwice, api.ErrState, api.ErrTime, api.ErrZone, api.ErrSpent} {
		if seen[e] < 100 {
			t.Errorf("errno %d came %d times only: that tells little", e, seen[e])
		}
	}
}

func right(t *testing.T, l api.Ledger, m *model) {
	t.Helper()
	if e := ledger.Check(l); e != api.OK {
		t.Fatalf("%+v: %d", l, e)
	}
	for _, x := range l.Tickets {
		n, e := ledger.Rides(l, x.Id)
		if n != m.rides[x.Id] || e != api.OK {
			t.Fatalf("%+v: %d rides of %d, not %d (%d)", l, n, x.Id, m.rides[x.Id], e)
		}
		if x.Kind == api.Single && n > 1 || x.Kind == api.Carnet && n > x.Rides {
			t.Fatalf("%+v: %d rides of %+v", l, n, x)
		}
	}
}

// random tickets, no taps.
func random(r *rand.Rand) api.Ledger {
	var l api.Ledger
	for range 1 + r.Intn(12) {
		x := api.Ticket{Id: 1 + r.Intn(40), Kind: 1 + r.Intn(3), From: r.Intn(200), Zones: 1 + r.Intn(15)}
		x.To = x.From + r.Intn(2000)
		if x.Kind == api.Carnet {
			x.Rides = 2 + r.Intn(8)
		}
		if y, e := ledger.Sell(l, x); e == api.OK {
			l = y
		}
	}
	return l
}

// TestD3ChangedIsFound: a ledger in which one verdict is another one is not right.
func TestD3ChangedIsFound(t *testing.T) {
	for i := range good().Taps {
		for verdict := -1; verdict <= 4; verdict++ {
			l := good()
			if l.Verdicts[i] == verdict {
				continue
			}
			l.Verdicts[i] = verdict
			if e := ledger.Check(l); e == api.OK {
				t.Errorf("verdict %d of tap %d passes", verdict, i)
			}
		}
	}
}
