package station_test

import (
	"math"
	"slices"
	"testing"

	"leeboard/api"
	"leeboard/gate"
	"leeboard/station"
)

func tap(id, gate, seq, time, zone int) api.Tap {
	return api.Tap{Ticket: id, Gate: gate, Seq: seq, Time: time, Zone: zone}
}

// roomy: a list with spare room behind it.
func roomy[T any](l ...T) []T {
	return append(make([]T, 0, 90), l...)
}

// good is a station that server 1 leads, with a gate that has told all, one that has two taps Alone, and one that nobody has used; behind its lists there is spare room.
func good() api.Station {
	return api.Station{
		Ledger: api.Ledger{
			Tickets: roomy(
				api.Ticket{Id: 3, Kind: api.Single, From: 10, To: 500, Zones: 3},
				api.Ticket{Id: 5, Kind: api.Day, To: 9999, Zones: 15},
				api.Ticket{Id: 9, Kind: api.Carnet, To: 400, Zones: 7, Rides: 2},
				api.Ticket{Id: 11, Kind: api.Single, To: 9999, Zones: 15},
				api.Ticket{Id: 12, Kind: api.Day, To: 9999, Zones: 15}),
			Taps:     roomy(tap(3, 0, 1, 20, 1), tap(5, 0, 2, 20, 1), tap(3, 1, 1, 79, 2), tap(9, 1, 2, 100, 2)),
			Verdicts: roomy(api.Ride, api.Ride, api.Change, api.Ride),
		},
		Denied: api.Denied{Version: 3, Ids: roomy(12, 77)},
		Gates: roomy(
			api.Gate{Id: 0, Zone: 1, Seq: 2, Denied: api.Denied{Version: 2, Ids: roomy(77)}, Budget: api.Budget{Left: 9, Until: 200}, Alone: roomy[api.Tap]()},
			api.Gate{Id: 1, Zone: 2, Seq: 4, Denied: api.Denied{Version: 3, Ids: roomy(12, 77)}, Budget: api.Budget{Left: 7, Until: 200}, Alone: roomy(tap(11, 1, 3, 90, 2), tap(5, 1, 4, 95, 2))},
			api.Gate{Id: 2, Zone: 4, Budget: api.Budget{Left: 9, Until: 200}}),
		Views: roomy(api.View{Epoch: 1}, api.View{Epoch: 2, Leader: 1, Up: true}, api.View{Epoch: 2, Leader: 1, Up: true}),
	}
}

// with: what good is when something was done with it.
func with(do ...func(*api.Station)) api.Station {
	s := good()
	for _, d := range do {
		d(&s)
	}
	return s
}

// leaderless: right views by which nobody leads.
func leaderless(s *api.Station) { s.Views[1].Up = false }

// bare gates: none has any Alone.
func bare(s *api.Station) { s.Gates[1].Alone = nil }

// busy: the ledger has n rides of a Day, the last one at 60*(n-1), and no gate has any Alone, or a list.
func busy(n int) func(*api.Station) {
	return func(s *api.Station) {
		s.Ledger.Taps, s.Ledger.Verdicts = nil, nil
		for i := range n {
			s.Ledger.Taps = append(s.Ledger.Taps, tap(5, i%3, i/3+1, 60*i, 1))
			s.Ledger.Verdicts = append(s.Ledger.Verdicts, api.Ride)
		}
		for i := range s.Gates {
			s.Gates[i] = api.Gate{Id: i, Zone: 1 << i, Seq: 30, Budget: api.Budget{Left: 9, Until: 9999}}
		}
	}
}

// alone: what gate n has let through Alone, one behind another from its Seq on.
func alone(n int, taps ...api.Tap) func(*api.Station) {
	return func(s *api.Station) {
		g := &s.Gates[n]
		g.Alone = nil
		for _, p := range taps {
			g.Seq++
			g.Alone = append(g.Alone, tap(p.Ticket, n, g.Seq, p.Time, g.Zone))
		}
	}
}

// at a time, a ticket: what alone needs of a tap.
func at(time, id int) api.Tap { return api.Tap{Ticket: id, Time: time} }

func sameList(a, b api.Denied) bool {
	return a.Version == b.Version && slices.Equal(a.Ids, b.Ids)
}

func sameGate(a, b api.Gate) bool {
	return a.Id == b.Id && a.Zone == b.Zone && a.Seq == b.Seq && slices.Equal(a.Alone, b.Alone) && sameList(a.Denied, b.Denied) && a.Budget == b.Budget
}

func sameLedger(a, b api.Ledger) bool {
	return slices.Equal(a.Tickets, b.Tickets) && slices.Equal(a.Taps, b.Taps) && slices.Equal(a.Verdicts, b.Verdicts)
}

func same(a, b api.Station) bool {
	return sameLedger(a.Ledger, b.Ledger) && sameList(a.Denied, b.Denied) && slices.EqualFunc(a.Gates, b.Gates, sameGate) && slices.Equal(a.Views, b.Views)
}

func empty(s api.Station) bool { return same(s, api.Station{}) }

// day is a ticket that nobody has bought yet.
func day(id int) api.Ticket {
	return api.Ticket{Id: id, Kind: api.Day, To: 9999, Zones: 15}
}

func refusesSell(t *testing.T, s api.Station, x api.Ticket, want api.Errno) {
	t.Helper()
	if y, e := station.Sell(s, x); !empty(y) || e != want {
		t.Errorf("Sell of %+v says %+v %d, not %d", x, y, e, want)
	}
}

func refusesTap(t *testing.T, s api.Station, id, n, time, verdict int, want api.Errno) {
	t.Helper()
	if y, v, e := station.Tap(s, id, n, time); !empty(y) || v != verdict || e != want {
		t.Errorf("Tap of %d at gate %d, %d, says %+v %d %d, not %d %d", id, n, time, y, v, e, verdict, want)
	}
}

func refusesSync(t *testing.T, s api.Station, n, time int, want api.Errno) {
	t.Helper()
	if y, told, e := station.Sync(s, n, time); !empty(y) || len(told) != 0 || e != want {
		t.Errorf("Sync of gate %d, %d, says %+v %v %d, not %d", n, time, y, told, e, want)
	}
}

// refuses: each call tells of a station's fault ahead of all else, somebody leading or not.
func refuses(t *testing.T, s api.Station, want api.Errno) {
	t.Helper()
	if got := station.Check(s); got != want {
		t.Errorf("Check says %d, not %d", got, want)
	}
	refusesSell(t, s, day(20), want)
	refusesSell(t, s, api.Ticket{}, want)
	for _, n := range []int{0, 1, 3, math.MinInt} {
		for _, time := range []int{150, -1} {
			refusesTap(t, s, 5, n, time, 0, want)
			refusesTap(t, s, 4, n, time, 0, want)
			refusesSync(t, s, n, time, want)
		}
	}
}

func TestJ1New(t *testing.T) {
	want := api.Station{
		Gates: []api.Gate{
			{Id: 0, Zone: 1, Budget: api.Budget{Left: 9, Until: 100}},
			{Id: 1, Zone: 2, Budget: api.Budget{Left: 9, Until: 100}},
			{Id: 2, Zone: 4, Budget: api.Budget{Left: 9, Until: 100}},
		},
		Views: []api.View{{Up: true}, {Up: true}, {Up: true}},
	}
	first := station.New()
	if !same(first, want) || station.Check(first) != api.OK {
		t.Fatalf("%+v", first)
	}
	scrawl(first)
	if again := station.New(); !same(again, want) {
		t.Errorf("%+v", again)
	}
}

func TestJ1Good(t *testing.T) {
	for name, do := range map[string]func(*api.Station){
		"a gate that is alone":          func(*api.Station) {},
		"nobody leads":                  leaderless,
		"nothing at all":                func(s *api.Station) { *s = station.New() },
		"a full ledger":                 busy(60),
		"empty lists":                   func(s *api.Station) { s.Gates[2].Alone, s.Gates[2].Denied.Ids = []api.Tap{}, []int{} },
		"gates of one zone":             func(s *api.Station) { bare(s); s.Gates[1].Zone, s.Gates[2].Zone = 1, 1 },
		"a gate of zone 8":              func(s *api.Station) { s.Gates[0].Zone = 8 },
		"a gate's list of that Version": func(s *api.Station) { s.Gates[2].Denied = api.Denied{Version: 3, Ids: []int{5}} },
		"an elder list that has more":   func(s *api.Station) { s.Denied.Ids, s.Gates[0].Denied.Ids = nil, []int{6, 7} },
		"Alone a ticket nobody bought":  func(s *api.Station) { s.Gates[1].Alone[0].Ticket = 4 },
		"Alone a ticket that is denied": func(s *api.Station) { s.Gates[1].Alone[0].Ticket = 12 },
		"Alone ahead of the ledger":     func(s *api.Station) { s.Gates[1].Alone[0].Time = 0 },
		"a Seq that went nowhere":       func(s *api.Station) { s.Gates[0].Seq = 99 },
		"numbers of other gates":        alone(2, at(20, 5), at(20, 3), at(20, 9)),
		"Seqs that fall":                func(s *api.Station) { s.Ledger.Taps[0].Seq = 2; s.Ledger.Taps[1].Seq = 1 },
	} {
		if got := station.Check(with(do)); got != api.OK {
			t.Errorf("%s: %d", name, got)
		}
	}
}

func TestJ1Faults(t *testing.T) {
	for _, c := range []struct {
		name string
		want api.Errno
		do   func(*api.Station)
	}{
		{"no station", api.ErrForm, func(s *api.Station) { *s = api.Station{} }},
		{"no verdicts", api.ErrMany, func(s *api.Station) { s.Ledger.Verdicts = nil }},
		{"too many taps", api.ErrMany, busy(61)},
		{"a wrong ticket", api.ErrKind, func(s *api.Station) { s.Ledger.Tickets[1].Kind = 0 }},
		{"ids that fall", api.ErrState, func(s *api.Station) { s.Ledger.Tickets[1].Id = 2 }},
		{"a tap of no ticket", api.ErrNone, func(s *api.Station) { s.Ledger.Taps[0].Ticket = 4 }},
		{"a tap of no zone", api.ErrZone, func(s *api.Station) { s.Ledger.Taps[0].Zone = 3 }},
		{"a number twice", api.ErrTwice, func(s *api.Station) { s.Ledger.Taps[1].Seq = 1 }},
		{"a wrong verdict", api.ErrState, func(s *api.Station) { s.Ledger.Verdicts[2] = api.Ride }},
		{"a Version below 0", api.ErrRange, func(s *api.Station) { s.Denied.Version = -1 }},
		{"a Version that is less", api.ErrState, func(s *api.Station) { s.Denied.Version = 1 }},
		{"too many denied", api.ErrMany, func(s *api.Station) { s.Denied.Ids = make([]int, 13) }},
		{"denied ids that fall", api.ErrState, func(s *api.Station) { s.Denied.Ids[0] = 78 }},
		{"no gates", api.ErrForm, func(s *api.Station) { s.Gates = nil }},
		{"a gate less", api.ErrForm, func(s *api.Station) { s.Gates = s.Gates[:2] }},
		{"a gate more", api.ErrForm, func(s *api.Station) { s.Gates = append(s.Gates, api.Gate{Zone: 8}) }},
		{"a gate's Id", api.ErrRange, func(s *api.Station) { s.Gates[2].Id = 3 }},
		{"a gate's zone", api.ErrZone, func(s *api.Station) { s.Gates[0].Zone = 3 }},
		{"a gate's Alone", api.ErrState, func(s *api.Station) { s.Gates[1].Alone[0].Time = 96 }},
		{"a gate's list", api.ErrRange, func(s *api.Station) { s.Gates[1].Denied.Ids[0] = 0 }},
		{"a gate's budget", api.ErrRange, func(s *api.Station) { s.Gates[2].Budget.Left = 10 }},
		{"another place", api.ErrState, func(s *api.Station) { s.Gates[0].Id = 2 }},
		{"places that are changed", api.ErrState, func(s *api.Station) { s.Gates[0], s.Gates[2] = s.Gates[2], s.Gates[0] }},
		{"one gate twice", api.ErrState, func(s *api.Station) { s.Gates[2] = s.Gates[1] }},
		{"a greater Version", api.ErrState, func(s *api.Station) { s.Gates[0].Denied.Version = 4 }},
		{"a greater Version, the last gate", api.ErrState, func(s *api.Station) { s.Gates[2].Denied.Version = 999 }},
		{"the station's Version is less", api.ErrState, func(s *api.Station) { s.Denied.Version = 2 }},
		{"Alone what the ledger has", api.ErrTwice, func(s *api.Station) { s.Gates[1].Seq = 1; alone(1, at(90, 11))(s) }},
		{"the last one Alone is in the ledger", api.ErrTwice, func(s *api.Station) { s.Ledger.Taps[3].Seq = 4 }},
		{"the first one Alone is in the ledger", api.ErrTwice, func(s *api.Station) { s.Ledger.Taps[2].Seq = 3 }},
		{"a Seq that is more than the gate's", api.ErrTwice, func(s *api.Station) { s.Gates[0].Seq = 1 }},
		{"a Seq that is more, and some Alone", api.ErrTwice, func(s *api.Station) { s.Ledger.Taps[3].Seq = 5 }},
		{"a Seq that is far more", api.ErrTwice, func(s *api.Station) { s.Ledger.Taps[1].Seq = 99 }},
		{"a Seq at the last gate", api.ErrTwice, func(s *api.Station) { s.Ledger.Taps[3].Gate, s.Ledger.Taps[3].Seq = 2, 1 }},
		{"no views", api.ErrForm, func(s *api.Station) { s.Views = nil }},
		{"a view more", api.ErrForm, func(s *api.Station) { s.Views = append(s.Views, api.View{}) }},
		{"a view's epoch", api.ErrRange, func(s *api.Station) { s.Views[2].Epoch = 100 }},
		{"a view's leader", api.ErrRange, func(s *api.Station) { s.Views[0].Leader = 2 }},
		{"a leader of no epoch", api.ErrState, func(s *api.Station) { s.Views[1] = api.View{Leader: 1} }},
		{"two that lead", api.ErrState, func(s *api.Station) { s.Views[1].Leader = 0 }},
	} {
		t.Run(c.name, func(t *testing.T) {
			refuses(t, with(c.do), c.want)
		})
	}
}

// fault of a station, or of what is asked of it.
type fault struct {
	errno api.Errno
	make  func(a *asked)
}

// asked is what a call is handed.
type asked struct {
	api.Station
	ticket      api.Ticket
	id, n, time int
}

// firstNamed goes through all sets of faults, each of which the first one is to tell.
func firstNamed(start asked, faults []fault, ask func(set int, first api.Errno, a asked)) {
	for set := 1; set < 1<<len(faults); set++ {
		a, first := start, api.OK
		a.Station = copied(start.Station)
		for i, f := range faults {
			if set>>i&1 == 0 {
				continue
			}
			f.make(&a)
			if first == api.OK {
				first = f.errno
			}
		}
		ask(set, first, a)
	}
}

// TestJ1FirstNamed: of several faults the one that is named first tells; some of them are about one gate.
func TestJ1FirstNamed(t *testing.T) {
	for n := range 2 {
		firstNamed(asked{Station: good()}, []fault{
			{api.ErrMany, func(a *asked) { a.Ledger.Verdicts = a.Ledger.Verdicts[:3] }},
			{api.ErrRange, func(a *asked) { a.Denied.Ids[1] = 10000 }},
			{api.ErrForm, func(a *asked) { a.Gates = append(a.Gates, api.Gate{}) }},
			{api.ErrZone, func(a *asked) { a.Gates[n].Zone = 3 }},
			{api.ErrState, func(a *asked) { a.Gates[n].Alone, a.Gates[n].Id = nil, 2 }},
			{api.ErrState, func(a *asked) { a.Gates[n].Denied.Version = 4 }},
			{api.ErrTwice, func(a *asked) { a.Gates[n].Alone, a.Gates[n].Seq = nil, 1 }},
			{api.ErrForm, func(a *asked) { a.Views = a.Views[:2] }},
		}, func(set int, first api.Errno, a asked) {
			if got := station.Check(a.Station); got != first {
				t.Errorf("gate %d, set %b: %d, not %d", n, set, got, first)
			}
		})
	}
}

// TestJ1GateByGate: of several gates the first one that is wrong tells, whatever is wrong of it.
func TestJ1GateByGate(t *testing.T) {
	wrong := []struct {
		errno api.Errno
		do    func(g *api.Gate)
	}{
		{api.ErrRange, func(g *api.Gate) { g.Id = 3 }},
		{api.ErrZone, func(g *api.Gate) { g.Zone = 0 }},
		{api.ErrState, func(g *api.Gate) { g.Id = (g.Id + 1) % 3 }},
		{api.ErrState, func(g *api.Gate) { g.Denied.Version = 500 }},
		{api.ErrTwice, func(g *api.Gate) { g.Seq = 0 }},
		{api.ErrTwice, func(g *api.Gate) { g.Alone, g.Seq = []api.Tap{tap(5, g.Id, 1, 50, g.Zone)}, 1 }},
	}
	for _, a := range wrong {
		for _, b := range wrong {
			for _, places := range [][2]int{{0, 1}, {0, 2}, {1, 2}} {
				s := with(busy(9))
				a.do(&s.Gates[places[0]])
				b.do(&s.Gates[places[1]])
				refuses(t, s, a.errno)
				s.Views = nil
				refuses(t, s, a.errno)
			}
		}
	}
}

func TestJ2Sell(t *testing.T) {
	for _, c := range []struct {
		ticket api.Ticket
		place  int
	}{
		{day(1), 0},
		{day(4), 1},
		{api.Ticket{Id: 10, Kind: api.Single, From: 5, To: 5, Zones: 1}, 3},
		{api.Ticket{Id: 77, Kind: api.Carnet, To: 9999, Zones: 4, Rides: 9}, 5},
		{day(9999), 5},
	} {
		want := good()
		want.Ledger.Tickets = slices.Insert(want.Ledger.Tickets, c.place, c.ticket)
		if y, e := station.Sell(good(), c.ticket); !same(y, want) || e != api.OK || station.Check(y) != api.OK {
			t.Errorf("%+v: %+v %d", c.ticket, y, e)
		}
	}
}

// full: as many tickets as may be were sold.
func full(s *api.Station) {
	for id := 100; len(s.Ledger.Tickets) < 12; id++ {
		s.Ledger.Tickets = append(s.Ledger.Tickets, day(id))
	}
}

func TestJ2SellFirstNamed(t *testing.T) {
	refusesSell(t, station.New(), day(1), api.ErrState)
	refusesSell(t, with(full), day(200), api.ErrMany)
	refusesSell(t, with(full), day(5), api.ErrTwice)
	refusesSell(t, with(full, leaderless), day(200), api.ErrState)
	firstNamed(asked{Station: good(), ticket: day(20)}, []fault{
		{api.ErrForm, func(a *asked) { a.Gates = nil }},
		{api.ErrState, func(a *asked) { leaderless(&a.Station) }},
		{api.ErrForm, func(a *asked) { a.ticket.Rides = 1 }},
		{api.ErrTwice, func(a *asked) { a.ticket.Id = 12 }},
		{api.ErrMany, func(a *asked) { full(&a.Station) }},
	}, func(set int, first api.Errno, a asked) {
		refusesSell(t, a.Station, a.ticket, first)
	})
}

// entered is a case of Tap where somebody leads and the gate has nothing Alone.
type entered struct {
	name        string
	do          func(*api.Station)
	id, n, time int
	verdict     int
}

func TestJ2TapEntered(t *testing.T) {
	for _, c := range []entered{
		{"a ride of a Day", bare, 5, 2, 100, api.Ride},
		{"a Carnet goes on", bare, 9, 0, 159, api.Change},
		{"a Carnet's last ride", bare, 9, 0, 160, api.Ride},
		{"a Carnet at the ledger's last time", bare, 9, 2, 100, api.Change},
		{"a Single's only ride", bare, 11, 2, 9999, api.Ride},
		{"at To", bare, 9, 0, 400, api.Ride},
		{"another gate is alone", func(*api.Station) {}, 5, 0, 100, api.Ride},
		{"the gate has told all", bare, 11, 1, 100, api.Ride},
		{"the gate's own list has it", func(s *api.Station) { s.Gates[0].Denied.Ids[0] = 5 }, 5, 0, 100, api.Ride},
		{"the gate has no budget", func(s *api.Station) { s.Gates[0].Budget = api.Budget{} }, 5, 0, 100, api.Ride},
		{"behind the gate's budget", bare, 5, 0, 201, api.Ride},
		{"the last Seq", func(s *api.Station) { s.Gates[0].Seq = 98 }, 5, 0, 100, api.Ride},
		{"the last one of a ledger", busy(59), 5, 1, 60 * 60, api.Ride},
		{"the first of all", func(s *api.Station) { s.Ledger.Taps, s.Ledger.Verdicts = nil, nil }, 5, 0, 0, api.Ride},
		{"a gate of zone 8", func(s *api.Station) { s.Gates[0].Zone = 8 }, 11, 0, 100, api.Ride},
		{"nothing is denied", func(s *api.Station) { s.Denied.Ids = nil }, 12, 0, 100, api.Ride},
		{"one of three voters is down", func(s *api.Station) { s.Views = []api.View{{Epoch: 1, Up: true}, {Epoch: 1}, {Epoch: 1, Up: true}} }, 5, 0, 100, api.Ride},
	} {
		s := with(c.do)
		want := copied(s)
		g := &want.Gates[c.n]
		g.Seq++
		want.Ledger.Taps = append(want.Ledger.Taps, tap(c.id, c.n, g.Seq, c.time, g.Zone))
		want.Ledger.Verdicts = append(want.Ledger.Verdicts, c.verdict)
		y, verdict, e := station.Tap(s, c.id, c.n, c.time)
		if !same(y, want) || verdict != c.verdict || e != api.OK || station.Check(y) != api.OK {
			t.Errorf("%s: %+v %d %d, not %+v", c.name, y, verdict, e, want)
		}
	}
}

// TestJ2TapNotEntered: what is Refused has that verdict beside its error; no other error has one.
func TestJ2TapNotEntered(t *testing.T) {
	last := func(s *api.Station) { s.Gates[0].Seq = 99 }
	twoRides := func(s *api.Station) {
		s.Gates[0].Seq = 3
		s.Ledger.Taps, s.Ledger.Verdicts = append(s.Ledger.Taps, tap(9, 0, 3, 160, 1)), append(s.Ledger.Verdicts, api.Ride)
	}
	for _, c := range []struct {
		entered
		errno api.Errno
	}{
		{entered{"a Single that is spent", bare, 3, 0, 100, api.Refused}, api.ErrSpent},
		{entered{"a Carnet that is spent", twoRides, 9, 0, 220, api.Refused}, api.ErrSpent},
		{entered{"another zone", bare, 3, 2, 100, api.Refused}, api.ErrZone},
		{entered{"too early", func(s *api.Station) { s.Ledger.Tickets[3].From = 101 }, 11, 0, 100, api.Refused}, api.ErrTime},
		{entered{"too late", bare, 9, 0, 401, api.Refused}, api.ErrTime},
		{entered{"a full ledger, and too late", func(s *api.Station) { busy(60)(s); s.Ledger.Tickets[1].To = 60 * 59 }, 5, 0, 60 * 60, api.Refused}, api.ErrTime},
		{entered{"a full ledger", busy(60), 5, 0, 60 * 60, 0}, api.ErrMany},
		{entered{"ahead of the ledger's last one", bare, 5, 0, 99, 0}, api.ErrState},
		{entered{"denied", bare, 12, 0, 100, 0}, api.ErrDenied},
		{entered{"denied, of which the gate has not heard", bare, 12, 2, 100, 0}, api.ErrDenied},
		{entered{"denied, and at no time", bare, 12, 0, -1, 0}, api.ErrDenied},
		{entered{"denied, and spent", func(s *api.Station) { s.Denied.Ids[0] = 3 }, 3, 0, 100, 0}, api.ErrDenied},
		{entered{"no Seq left", last, 5, 0, 100, 0}, api.ErrMany},
		{entered{"no Seq left, and spent", last, 3, 0, 100, 0}, api.ErrMany},
		{entered{"no Seq left, at no time", last, 5, 0, 10000, 0}, api.ErrRange},
		{entered{"a time below 0", bare, 5, 0, -1, 0}, api.ErrRange},
		{entered{"a time too great", bare, 5, 0, 10000, 0}, api.ErrRange},
		{entered{"the least time", bare, 5, 0, math.MinInt, 0}, api.ErrRange},
		{entered{"the greatest time", bare, 5, 0, math.MaxInt, 0}, api.ErrRange},
		{entered{"no gate", bare, 5, 3, 100, 0}, api.ErrRange},
		{entered{"no gate, below 0", bare, 5, -1, 100, 0}, api.ErrRange},
		{entered{"no gate by far", bare, 5, math.MaxInt, 100, 0}, api.ErrRange},
		{entered{"no gate, and not sold", bare, 4, math.MinInt, 100, 0}, api.ErrRange},
		{entered{"not sold", bare, 4, 0, 100, 0}, api.ErrNone},
		{entered{"not sold, and denied", bare, 77, 0, 100, 0}, api.ErrNone},
		{entered{"no id", bare, 0, 0, 100, 0}, api.ErrNone},
		{entered{"no id by far", bare, math.MaxInt, 0, 100, 0}, api.ErrNone},
		{entered{"no id, and at no time", bare, math.MinInt, 0, -1, 0}, api.ErrNone},
	} {
		t.Run(c.name, func(t *testing.T) {
			refusesTap(t, with(c.do), c.id, c.n, c.time, c.verdict, c.errno)
		})
	}
}

// TestJ2TapAlone: where nobody leads, and where a gate has any Alone, a tap is what the gate makes of the ticket as it was sold; the ledger and the station's list stay as they are.
func TestJ2TapAlone(t *testing.T) {
	leaders := map[string]func(*api.Station){
		"the leader is down":                   leaderless,
		"the witness is down":                  func(s *api.Station) { s.Views[2].Up = false },
		"nobody has ever won":                  func(s *api.Station) { s.Views = station.New().Views },
		"the leader is of an elder epoch":      func(s *api.Station) { s.Views[0].Epoch = 3 },
		"all are down":                         func(s *api.Station) { s.Views = []api.View{{Epoch: 1}, {Epoch: 1}, {Epoch: 1}} },
		"somebody leads, and some are Alone":   alone(0, at(90, 11)),
		"somebody leads, and one is at 100":    alone(0, at(100, 9)),
		"nobody leads, and some are Alone":     func(s *api.Station) { leaderless(s); alone(0, at(90, 3))(s) },
		"somebody leads, and many are Alone":   alone(0, slices.Repeat([]api.Tap{at(90, 5)}, 11)...),
		"somebody leads, and twelve are":       alone(0, slices.Repeat([]api.Tap{at(90, 5)}, 12)...),
		"nobody leads, and no Seq is left":     func(s *api.Station) { leaderless(s); s.Gates[0].Seq = 99 },
		"nobody leads, and one Seq is left":    func(s *api.Station) { leaderless(s); s.Gates[0].Seq = 98 },
		"nobody leads, and nothing is left":    func(s *api.Station) { leaderless(s); s.Gates[0].Budget.Left = 0 },
		"nobody leads, and the ledger is full": func(s *api.Station) { busy(60)(s); leaderless(s) },
		"nobody leads, and it has another list": func(s *api.Station) {
			leaderless(s)
			s.Gates[0].Denied = api.Denied{Version: 3, Ids: []int{3, 9}}
		},
	}
	seen := map[api.Errno]int{}
	for name, do := range leaders {
		for _, x := range good().Ledger.Tickets {
			for _, time := range []int{-1, 0, 9, 10, 89, 90, 99, 100, 150, 200, 201, 401, 501, 9999, 10000, math.MaxInt} {
				s := with(do)
				want := copied(s)
				g, _, errno := gate.Tap(copied(s).Gates[0], x, time)
				want.Gates[0] = g
				if errno != api.OK {
					want = api.Station{}
				}
				seen[errno]++
				y, verdict, e := station.Tap(s, x.Id, 0, time)
				if !same(y, want) || verdict != 0 || e != errno {
					t.Errorf("%s, %d at %d: %+v %d %d, not %+v %d", name, x.Id, time, y, verdict, e, want, errno)
				}
				if e == api.OK && station.Check(y) != api.OK {
					t.Errorf("%s, %d at %d: %+v", name, x.Id, time, y)
				}
			}
		}
	}
	for _, e := range []api.Errno{api.OK, api.ErrRange, api.ErrState, api.ErrDenied, api.ErrTime, api.ErrSpent, api.ErrMany} {
		if seen[e] == 0 {
			t.Errorf("errno %d never came", e)
		}
	}
}

// TestJ2TapAloneWhat: what comes of a tap at a gate that is alone, number by number.
func TestJ2TapAloneWhat(t *testing.T) {
	want := with(leaderless)
	want.Gates[2].Seq = 1
	want.Gates[2].Alone = []api.Tap{tap(12, 2, 1, 30, 4)}
	want.Gates[2].Budget.Left = 8
	// It is denied, of which this gate has not heard, and the time is ahead of the ledger's last one.
	if y, verdict, e := station.Tap(with(leaderless), 12, 2, 30); !same(y, want) || verdict != 0 || e != api.OK {
		t.Errorf("%+v %d %d", y, verdict, e)
	}
	refusesTap(t, with(leaderless), 12, 1, 100, 0, api.ErrDenied)
	refusesTap(t, with(leaderless), 9, 0, 401, 0, api.ErrTime)
	refusesTap(t, with(leaderless), 3, 2, 100, 0, api.ErrZone)
	refusesTap(t, with(leaderless), 11, 1, 100, 0, api.ErrSpent)
	refusesTap(t, with(leaderless), 5, 3, 100, 0, api.ErrRange)
	refusesTap(t, with(leaderless), 4, 0, 100, 0, api.ErrNone)
	refusesTap(t, with(leaderless), 77, 0, 100, 0, api.ErrNone)
	refusesTap(t, good(), 12, 1, 100, 0, api.ErrDenied)
	refusesTap(t, good(), 5, 1, 94, 0, api.ErrState)
	refusesTap(t, good(), 9, 1, 201, 0, api.ErrTime)
}

// TestJ2TapFirstNamed: of several errors the one that is named first tells.
func TestJ2TapFirstNamed(t *testing.T) {
	ahead := []fault{
		{api.ErrForm, func(a *asked) { a.Gates = a.Gates[:2] }},
		{api.ErrRange, func(a *asked) { a.n = 3 }},
		{api.ErrNone, func(a *asked) { a.id = 13 }},
	}
	refused := func(set int, first api.Errno, a asked) {
		verdict := 0
		if first == api.ErrTime || first == api.ErrZone {
			verdict = api.Refused
		}
		refusesTap(t, a.Station, a.id, a.n, a.time, verdict, first)
	}
	firstNamed(asked{Station: with(busy(58)), id: 11, n: 0, time: 60 * 57}, append(slices.Clone(ahead),
		fault{api.ErrDenied, func(a *asked) { a.Denied.Ids[0] = 11 }},
		fault{api.ErrRange, func(a *asked) { a.time = -1 }},
		fault{api.ErrMany, func(a *asked) { a.Gates[0].Seq = 99 }},
		fault{api.ErrState, func(a *asked) { a.time = min(a.time, 60*57-1) }},
		fault{api.ErrTime, func(a *asked) { a.Ledger.Tickets[3].To = 60 * 50 }},
		fault{api.ErrZone, func(a *asked) { a.Ledger.Tickets[3].Zones = 14 }},
	), refused)
	firstNamed(asked{Station: with(leaderless), id: 11, n: 0, time: 150}, append(slices.Clone(ahead),
		fault{api.ErrRange, func(a *asked) { a.time = -1 }},
		fault{api.ErrDenied, func(a *asked) { a.Gates[0].Denied.Ids[0] = 11 }},
		fault{api.ErrTime, func(a *asked) { a.Gates[0].Budget.Until = 0 }},
		fault{api.ErrSpent, func(a *asked) { a.Gates[0].Budget.Left = 0 }},
		fault{api.ErrMany, func(a *asked) { a.Gates[0].Seq = 99 }},
	), func(set int, first api.Errno, a asked) {
		refusesTap(t, a.Station, a.id, a.n, a.time, 0, first)
	})
}

// synced is a case of Sync: what a gate has to tell, and what the ledger, the list and the told ones are behind it.
type synced struct {
	name     string
	do       func(*api.Station)
	n, time  int
	taps     []api.Tap
	verdicts []int
	list     api.Denied
	told     []api.Tap
}

func TestJ2Sync(t *testing.T) {
	own := good().Ledger.Taps
	is := good().Ledger.Verdicts
	list := good().Denied
	for _, c := range []synced{
		{"a gate with nothing Alone", func(*api.Station) {}, 0, 150, own, is, list, nil},
		{"a gate that nobody has used", func(*api.Station) {}, 2, 0, own, is, list, nil},
		{"at the last time of all", func(*api.Station) {}, 0, 9999, own, is, list, nil},
		{"two that were Alone", func(*api.Station) {}, 1, 150,
			[]api.Tap{own[0], own[1], own[2], tap(11, 1, 3, 90, 2), tap(5, 1, 4, 95, 2), own[3]}, []int{1, 1, 2, 1, 1, 1}, list, nil},
		{"at a time ahead of these", func(*api.Station) {}, 1, 0,
			[]api.Tap{own[0], own[1], own[2], tap(11, 1, 3, 90, 2), tap(5, 1, 4, 95, 2), own[3]}, []int{1, 1, 2, 1, 1, 1}, list, nil},
		{"one that was too much", alone(2, at(80, 3)), 2, 150, own, is, api.Denied{Version: 4, Ids: []int{3, 12, 77}}, []api.Tap{tap(3, 2, 1, 80, 4)}},
		{"one that is spent", alone(0, at(120, 3)), 0, 150, own, is, api.Denied{Version: 4, Ids: []int{3, 12, 77}}, []api.Tap{tap(3, 0, 3, 120, 1)}},
		{"one that nobody has bought", alone(2, at(80, 9999)), 2, 150, own, is, api.Denied{Version: 4, Ids: []int{12, 77, 9999}}, []api.Tap{tap(9999, 2, 1, 80, 4)}},
		{"one that is denied already goes through", alone(2, at(80, 12)), 2, 150,
			[]api.Tap{own[0], own[1], own[2], tap(12, 2, 1, 80, 4), own[3]}, []int{1, 1, 2, 1, 1}, list, nil},
		{"one that is denied already, and nobody has bought", alone(2, at(80, 77)), 2, 150, own, is, list, []api.Tap{tap(77, 2, 1, 80, 4)}},
		{"one that is told often is denied once", alone(2, at(70, 3), at(80, 3), at(80, 3)), 2, 150, own, is, api.Denied{Version: 4, Ids: []int{3, 12, 77}},
			[]api.Tap{tap(3, 2, 1, 70, 4), tap(3, 2, 2, 80, 4), tap(3, 2, 3, 80, 4)}},
		{"several that are denied", alone(2, at(80, 50), at(81, 3), at(82, 77), at(83, 40)), 2, 150, own, is, api.Denied{Version: 6, Ids: []int{3, 12, 40, 50, 77}},
			[]api.Tap{tap(50, 2, 1, 80, 4), tap(3, 2, 2, 81, 4), tap(77, 2, 3, 82, 4), tap(40, 2, 4, 83, 4)}},
		{"one of another gate, in the ledger, is too much now", alone(0, at(11, 3)), 0, 150,
			[]api.Tap{tap(3, 0, 3, 11, 1), own[0], own[1], own[3]}, []int{1, 2, 1, 1}, api.Denied{Version: 4, Ids: []int{3, 12, 77}}, []api.Tap{own[2]}},
		{"a ride of another gate is a change now", alone(0, at(0, 9), at(60, 9)), 0, 150,
			[]api.Tap{tap(9, 0, 3, 0, 1), own[0], own[1], tap(9, 0, 4, 60, 1), own[2], own[3]}, []int{1, 1, 1, 1, 2, 2}, list, nil},
		{"a Carnet's rides and changes", alone(0, at(0, 9), at(40, 9), at(60, 9)), 0, 150,
			[]api.Tap{tap(9, 0, 3, 0, 1), own[0], own[1], tap(9, 0, 4, 40, 1), tap(9, 0, 5, 60, 1), own[2], own[3]}, []int{1, 1, 1, 2, 1, 2, 2}, list, nil},
	} {
		s := with(c.do)
		want := copied(s)
		want.Ledger.Taps, want.Ledger.Verdicts, want.Denied = c.taps, c.verdicts, c.list
		g := s.Gates[c.n]
		want.Gates[c.n] = api.Gate{Id: g.Id, Zone: g.Zone, Seq: g.Seq, Denied: c.list, Budget: api.Budget{Left: 9, Until: c.time + 100}}
		y, told, e := station.Sync(s, c.n, c.time)
		if !same(y, want) || !slices.Equal(told, c.told) || e != api.OK || station.Check(y) != api.OK {
			t.Errorf("%s: %+v %v %d, not %+v %v", c.name, y, told, e, want, c.told)
		}
	}
}

// TestJ2SyncList: whichever list a gate had, it has the station's behind Sync.
func TestJ2SyncList(t *testing.T) {
	for name, list := range map[string]api.Denied{
		"none":                        {},
		"an elder one":                {Version: 2, Ids: []int{5, 6}},
		"another of the same Version": {Version: 3, Ids: []int{5, 6, 7}},
		"the same":                    {Version: 3, Ids: []int{12, 77}},
	} {
		s := good()
		s.Gates[0].Denied = list
		y, _, e := station.Sync(s, 0, 150)
		if e != api.OK || !sameList(y.Denied, good().Denied) || !sameList(y.Gates[0].Denied, good().Denied) || !sameGate(y.Gates[1], good().Gates[1]) || !sameGate(y.Gates[2], good().Gates[2]) {
			t.Errorf("%s: %+v %d", name, y, e)
		}
	}
}

// TestJ2SyncFullList: what was too much is told, and denied in order as long as there is room.
func TestJ2SyncFullList(t *testing.T) {
	twelve := []int{201, 202, 203, 204, 205, 206, 207, 208, 209, 210, 211, 212}
	for _, c := range []struct {
		name       string
		list, want api.Denied
	}{
		{"room for all", api.Denied{Version: 20, Ids: twelve[:9]}, api.Denied{Version: 23, Ids: slices.Concat([]int{50, 60, 70}, twelve[:9])}},
		{"room for two", api.Denied{Version: 20, Ids: twelve[:10]}, api.Denied{Version: 22, Ids: slices.Concat([]int{60, 70}, twelve[:10])}},
		{"room for one", api.Denied{Version: 11, Ids: twelve[:11]}, api.Denied{Version: 12, Ids: slices.Concat([]int{70}, twelve[:11])}},
		{"no room", api.Denied{Version: 12, Ids: twelve}, api.Denied{Version: 12, Ids: twelve}},
		{"three Versions left", api.Denied{Version: 996}, api.Denied{Version: 999, Ids: []int{50, 60, 70}}},
		{"two Versions left", api.Denied{Version: 997}, api.Denied{Version: 999, Ids: []int{60, 70}}},
		{"one Version left", api.Denied{Version: 998, Ids: twelve[:3]}, api.Denied{Version: 999, Ids: []int{70, 201, 202, 203}}},
		{"no Version left", api.Denied{Version: 999, Ids: twelve[:3]}, api.Denied{Version: 999, Ids: twelve[:3]}},
		{"two are there, and one Version is left", api.Denied{Version: 998, Ids: []int{60, 70}}, api.Denied{Version: 999, Ids: []int{50, 60, 70}}},
		{"one is there, and room for one", api.Denied{Version: 998, Ids: append([]int{70}, twelve[:10]...)}, api.Denied{Version: 999, Ids: append([]int{60, 70}, twelve[:10]...)}},
		{"all are there, and no room", api.Denied{Version: 999, Ids: append([]int{50, 60, 70}, twelve[:9]...)}, api.Denied{Version: 999, Ids: append([]int{50, 60, 70}, twelve[:9]...)}},
	} {
		s := with(alone(2, at(80, 70), at(81, 60), at(82, 70), at(83, 50)), func(s *api.Station) {
			s.Denied = c.list
		})
		want := copied(s)
		want.Denied = c.want
		want.Gates[2] = api.Gate{Id: 2, Zone: 4, Seq: 4, Denied: c.want, Budget: api.Budget{Left: 9, Until: 250}}
		y, told, e := station.Sync(s, 2, 150)
		if !same(y, want) || !slices.Equal(told, s.Gates[2].Alone) || e != api.OK || station.Check(y) != api.OK {
			t.Errorf("%s: %+v %v %d, not %+v", c.name, y, told, e, want)
		}
	}
}

// TestJ2SyncFullLedger: what the ledger has no room for is not lost: the gate keeps it.
func TestJ2SyncFullLedger(t *testing.T) {
	for _, c := range []struct {
		n, more int
		want    api.Errno
	}{
		{60, 0, api.OK}, {60, 1, api.ErrMany}, {59, 1, api.OK}, {59, 2, api.ErrMany}, {48, 12, api.OK}, {49, 12, api.ErrMany},
	} {
		s := with(busy(c.n), alone(0, slices.Repeat([]api.Tap{at(4000, 5)}, c.more)...))
		if c.want != api.OK {
			refusesSync(t, s, 0, 150, c.want)
		} else if y, told, e := station.Sync(s, 0, 150); len(y.Ledger.Taps) != c.n+c.more || len(told) != 0 || e != api.OK {
			t.Errorf("%d and %d: %+v %v %d", c.n, c.more, y, told, e)
		}
	}
	// What is told takes no room.
	if y, told, e := station.Sync(with(busy(60), alone(0, at(90, 4))), 0, 150); len(y.Ledger.Taps) != 60 || len(told) != 1 || e != api.OK {
		t.Errorf("%+v %v %d", y, told, e)
	}
}

// TestJ2SyncFirstNamed: of several errors the one that is named first tells.
func TestJ2SyncFirstNamed(t *testing.T) {
	for _, n := range []int{-1, 3, math.MinInt, math.MaxInt} {
		for _, time := range []int{-1, 10000, math.MinInt, math.MaxInt} {
			firstNamed(asked{Station: with(busy(60)), n: 0, time: 150}, []fault{
				{api.ErrForm, func(a *asked) { a.Views = nil }},
				{api.ErrRange, func(a *asked) { a.n = n }},
				{api.ErrState, func(a *asked) { a.Views = station.New().Views }},
				{api.ErrRange, func(a *asked) { a.time = time }},
				{api.ErrMany, func(a *asked) { alone(0, at(4000, 5))(&a.Station) }},
			}, func(set int, first api.Errno, a asked) {
				if set&5 != 5 { // there are no views, or they have no leader
					refusesSync(t, a.Station, a.n, a.time, first)
				}
			})
		}
	}
}
