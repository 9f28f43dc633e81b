package desk_test

import (
	"fmt"
	"math"
	"slices"
	"testing"

	"leeboard/api"
	"leeboard/desk"
	"leeboard/station"
)

func sell(x api.Ticket) api.Act      { return api.Act{Kind: api.ActSell, Ticket: x} }
func ride(id, of, time int) api.Act  { return api.Act{Kind: api.ActTap, Id: id, Of: of, Time: time} }
func deny(id int) api.Act            { return api.Act{Kind: api.ActDeny, Id: id} }
func sync(of, time int) api.Act      { return api.Act{Kind: api.ActSync, Of: of, Time: time} }
func up(of int) api.Act              { return api.Act{Kind: api.ActUp, Of: of} }
func down(of int) api.Act            { return api.Act{Kind: api.ActDown, Of: of} }
func wants(of int) api.Act           { return api.Act{Kind: api.ActLead, Of: of} }
func acts(l ...api.Act) []api.Act    { return l }
func view(epoch, who int) api.View   { return api.View{Epoch: epoch, Leader: who, Up: true} }
func gone(epoch, who int) api.View   { return api.View{Epoch: epoch, Leader: who} }
func same(a, b any) bool             { return fmt.Sprint(a) == fmt.Sprint(b) } // an empty list is shown as none is
func empty(s api.Station) bool       { return same(s, api.Station{}) }
func roomy[T any](l ...T) []T        { return append(make([]T, 0, 90), l...) } // with spare room behind it
func views(l ...api.View) []api.View { return l }
func nothing(*api.Station)           {}
func day(id int) api.Ticket          { return api.Ticket{Id: id, Kind: api.Day, To: 9999, Zones: 15} }
func single(id, to int) api.Ticket   { return api.Ticket{Id: id, Kind: api.Single, To: to, Zones: 15} }
func carnet(id, rides int) api.Ticket {
	return api.Ticket{Id: id, Kind: api.Carnet, To: 9999, Zones: 15, Rides: rides}
}

func tap(id, gate, seq, time, zone int) api.Tap {
	return api.Tap{Ticket: id, Gate: gate, Seq: seq, Time: time, Zone: zone}
}

// good is a station that server 1 leads, with a gate that has told all, one that has two taps Alone, and one that nobody has used; behind its lists there is spare room.
func good() api.Station {
	return api.Station{
		Ledger: api.Ledger{
			Tickets: roomy(
				api.Ticket{Id: 3, Kind: api.Single, From: 10, To: 500, Zones: 3},
				day(5),
				api.Ticket{Id: 9, Kind: api.Carnet, To: 400, Zones: 7, Rides: 2},
				single(11, 9999),
				day(12)),
			Taps:     roomy(tap(3, 0, 1, 20, 1), tap(5, 0, 2, 20, 1), tap(3, 1, 1, 79, 2), tap(9, 1, 2, 100, 2)),
			Verdicts: roomy(api.Ride, api.Ride, api.Change, api.Ride),
		},
		Denied: api.Denied{Version: 3, Ids: roomy(12, 77)},
		Gates: roomy(
			api.Gate{Id: 0, Zone: 1, Seq: 2, Denied: api.Denied{Version: 2, Ids: roomy(77)}, Budget: api.Budget{Left: 9, Until: 200}, Alone: roomy[api.Tap]()},
			api.Gate{Id: 1, Zone: 2, Seq: 4, Denied: api.Denied{Version: 3, Ids: roomy(12, 77)}, Budget: api.Budget{Left: 7, Until: 200}, Alone: roomy(tap(11, 1, 3, 90, 2), tap(5, 1, 4, 95, 2))},
			api.Gate{Id: 2, Zone: 4, Budget: api.Budget{Left: 9, Until: 200}}),
		Views: roomy(gone(1, 0), view(2, 1), view(2, 1)),
	}
}

// with: what good is when something was done with it.
func with(do ...func(*api.Station)) api.Station {
	s := good()
	for _, d := range do {
		d(&s)
	}
	return s
}

// bare gates: none has any Alone.
func bare(s *api.Station) { s.Gates[1].Alone = nil }

// leaderless: right views by which nobody leads.
func leaderless(s *api.Station) { s.Views[1].Up = false }

// seen by voters: these views.
func seen(l ...api.View) func(*api.Station) {
	return func(s *api.Station) { s.Views = l }
}

// alone: what gate n has let through Alone, one behind another from its Seq on.
func alone(n int, taps ...api.Tap) func(*api.Station) {
	return func(s *api.Station) {
		g := &s.Gates[n]
		g.Alone = nil
		for _, p := range taps {
			g.Seq++
			g.Alone = append(g.Alone, tap(p.Ticket, n, g.Seq, p.Time, g.Zone))
		}
	}
}

// at a time, a ticket: what alone needs of a tap.
func at(time, id int) api.Tap { return api.Tap{Ticket: id, Time: time} }

// told: gate n has told all, and has the station's list and a budget till a time.
func told(s *api.Station, n, until int) {
	g := s.Gates[n]
	s.Gates[n] = api.Gate{Id: n, Zone: g.Zone, Seq: g.Seq, Denied: s.Denied, Budget: api.Budget{Left: 9, Until: until}}
}

// let: gate n has let p through, and has that many left.
func let(s *api.Station, n, left int, p api.Tap) {
	g := &s.Gates[n]
	g.Seq, g.Alone, g.Budget.Left = p.Seq, append(g.Alone, p), left
}

// enters a tap as what it is.
func enters(s *api.Station, p api.Tap, verdict int) {
	s.Gates[p.Gate].Seq = p.Seq
	s.Ledger.Taps = append(s.Ledger.Taps, p)
	s.Ledger.Verdicts = append(s.Ledger.Verdicts, verdict)
}

// done is a case of Do: what was done with a station that is good, an act, what it answers, and what becomes of the station.
type done struct {
	name string
	do   func(*api.Station)
	act  api.Act
	n    int
	then func(*api.Station)
}

func does(t *testing.T, cases []done) {
	t.Helper()
	for _, c := range cases {
		want := with(c.do)
		c.then(&want)
		if y, n, e := desk.Do(with(c.do), c.act); !same(y, want) || n != c.n || e != api.OK || station.Check(y) != api.OK {
			t.Errorf("%s: %+v %d %d, not %+v %d", c.name, y, n, e, want, c.n)
		}
	}
}

func refuses(t *testing.T, s api.Station, a api.Act, verdict int, want api.Errno) {
	t.Helper()
	if y, n, e := desk.Do(s, a); !empty(y) || n != verdict || e != want {
		t.Errorf("%+v says %+v %d %d, not %d %d", a, y, n, e, verdict, want)
	}
}

func TestK1Sell(t *testing.T) {
	at := func(place int, x api.Ticket) func(*api.Station) {
		return func(s *api.Station) { s.Ledger.Tickets = slices.Insert(s.Ledger.Tickets, place, x) }
	}
	does(t, []done{
		{"the least id", nothing, sell(day(1)), 0, at(0, day(1))},
		{"one in between", nothing, sell(single(10, 7)), 0, at(3, single(10, 7))},
		{"the greatest id", nothing, sell(carnet(9999, 9)), 0, at(5, carnet(9999, 9))},
		{"one that is denied", nothing, sell(day(77)), 0, at(5, day(77))},
	})
	refuses(t, good(), sell(day(5)), 0, api.ErrTwice)
	refuses(t, good(), sell(api.Ticket{}), 0, api.ErrRange)
	refuses(t, good(), sell(api.Ticket{Id: 4, Zones: 1}), 0, api.ErrKind)
	refuses(t, good(), sell(api.Ticket{Id: 4, Kind: api.Day, From: 2, To: 1, Zones: 1}), 0, api.ErrState)
	refuses(t, good(), sell(carnet(4, 1)), 0, api.ErrForm)
	refuses(t, with(leaderless), sell(day(4)), 0, api.ErrState)
	refuses(t, with(leaderless), sell(api.Ticket{}), 0, api.ErrState)
	refuses(t, with(func(s *api.Station) {
		for id := range 7 {
			s.Ledger.Tickets = append(s.Ledger.Tickets, day(20+id))
		}
	}), sell(day(4)), 0, api.ErrMany)
}

func TestK1Tap(t *testing.T) {
	does(t, []done{
		{"a ride", bare, ride(5, 0, 150), api.Ride, func(s *api.Station) { enters(s, tap(5, 0, 3, 150, 1), api.Ride) }},
		{"a change", bare, ride(9, 0, 159), api.Change, func(s *api.Station) { enters(s, tap(9, 0, 3, 159, 1), api.Change) }},
		{"a ride again", bare, ride(9, 2, 160), api.Ride, func(s *api.Station) { enters(s, tap(9, 2, 1, 160, 4), api.Ride) }},
		{"where nobody leads", leaderless, ride(12, 2, 30), 0, func(s *api.Station) { let(s, 2, 8, tap(12, 2, 1, 30, 4)) }},
		{"where one has some Alone", nothing, ride(9, 1, 95), 0, func(s *api.Station) { let(s, 1, 6, tap(9, 1, 5, 95, 2)) }},
	})
	for _, c := range []struct {
		name         string
		do           func(*api.Station)
		id, of, time int
		verdict      int
		want         api.Errno
	}{
		{"spent", bare, 3, 0, 100, api.Refused, api.ErrSpent},
		{"too late", bare, 9, 0, 401, api.Refused, api.ErrTime},
		{"too early", func(s *api.Station) { bare(s); s.Ledger.Tickets[3].From = 300 }, 11, 0, 299, api.Refused, api.ErrTime},
		{"another zone", bare, 3, 2, 100, api.Refused, api.ErrZone},
		{"denied", bare, 12, 0, 150, 0, api.ErrDenied},
		{"less than the last time", bare, 5, 0, 99, 0, api.ErrState},
		{"no Seq left", func(s *api.Station) { bare(s); s.Gates[0].Seq = 99 }, 5, 0, 150, 0, api.ErrMany},
		{"no time", bare, 5, 0, 10000, 0, api.ErrRange},
		{"no gate", bare, 5, 3, 150, 0, api.ErrRange},
		{"no gate below 0", bare, 5, -1, 150, 0, api.ErrRange},
		{"not sold", bare, 4, 0, 150, 0, api.ErrNone},
		{"nobody leads, spent", func(s *api.Station) { leaderless(s); s.Gates[2].Budget.Left = 0 }, 5, 2, 150, 0, api.ErrSpent},
		{"nobody leads, another zone", leaderless, 3, 2, 150, 0, api.ErrZone},
		{"nobody leads, too late", leaderless, 9, 2, 201, 0, api.ErrTime},
		{"nobody leads, denied", leaderless, 12, 1, 150, 0, api.ErrDenied},
		{"some Alone, spent", nothing, 11, 1, 150, 0, api.ErrSpent},
	} {
		t.Run(c.name, func(t *testing.T) {
			refuses(t, with(c.do), ride(c.id, c.of, c.time), c.verdict, c.want)
		})
	}
}

func TestK1Sync(t *testing.T) {
	merged := func(s *api.Station) {
		s.Ledger.Taps = slices.Insert(s.Ledger.Taps, 3, tap(11, 1, 3, 90, 2), tap(5, 1, 4, 95, 2))
		s.Ledger.Verdicts = []int{1, 1, 2, 1, 1, 1}
		told(s, 1, 250)
	}
	denies := func(version int, ids ...int) func(*api.Station) {
		return func(s *api.Station) {
			s.Denied = api.Denied{Version: version, Ids: ids}
			told(s, 2, 250)
		}
	}
	does(t, []done{
		{"nothing to tell", nothing, sync(0, 0), 0, func(s *api.Station) { told(s, 0, 100) }},
		{"none was too much", nothing, sync(1, 150), 0, merged},
		{"one was", alone(2, at(80, 3)), sync(2, 150), 1, denies(4, 3, 12, 77)},
		{"one was, that nobody has bought", alone(2, at(80, 4)), sync(2, 150), 1, denies(4, 4, 12, 77)},
		{"three were, of one ticket", alone(2, at(80, 3), at(80, 3), at(90, 3)), sync(2, 150), 3, denies(4, 3, 12, 77)},
		{"three were, one of them is denied already", alone(2, at(80, 3), at(80, 77), at(90, 4)), sync(2, 150), 3, denies(5, 3, 4, 12, 77)},
		{"twelve were", alone(2, slices.Repeat([]api.Tap{at(80, 3)}, 12)...), sync(2, 150), 12, denies(4, 3, 12, 77)},
	})
	refuses(t, good(), sync(-1, 150), 0, api.ErrRange)
	refuses(t, good(), sync(3, 150), 0, api.ErrRange)
	refuses(t, good(), sync(1, -1), 0, api.ErrRange)
	refuses(t, good(), sync(1, 10000), 0, api.ErrRange)
	refuses(t, with(leaderless), sync(1, 150), 0, api.ErrState)
	refuses(t, with(leaderless), sync(3, 150), 0, api.ErrRange)
	refuses(t, with(leaderless), sync(1, -1), 0, api.ErrState)
}

func TestK1SyncFull(t *testing.T) {
	full := with(bare, func(s *api.Station) {
		for i := range 56 {
			enters(s, tap(5, 2, i+1, 100+i, 4), api.Change)
			s.Ledger.Verdicts[4+i] = map[bool]int{true: api.Ride, false: api.Change}[i == 0]
		}
	}, alone(0, at(90, 5)))
	if e := station.Check(full); e != api.OK {
		t.Fatal(e)
	}
	refuses(t, full, sync(0, 150), 0, api.ErrMany)
	refuses(t, full, ride(5, 1, 155), 0, api.ErrMany)
}

func TestK1Deny(t *testing.T) {
	denies := func(version int, ids ...int) func(*api.Station) {
		return func(s *api.Station) { s.Denied = api.Denied{Version: version, Ids: ids} }
	}
	eleven := []int{12, 77, 80, 81, 82, 83, 84, 85, 86, 87, 88}
	does(t, []done{
		{"one that was sold", nothing, deny(5), 0, denies(4, 5, 12, 77)},
		{"one that was not", nothing, deny(20), 0, denies(4, 12, 20, 77)},
		{"the least", nothing, deny(1), 0, denies(4, 1, 12, 77)},
		{"the greatest", nothing, deny(9999), 0, denies(4, 12, 77, 9999)},
		{"the twelfth", denies(20, eleven...), deny(79), 0, denies(21, 12, 77, 79, 80, 81, 82, 83, 84, 85, 86, 87, 88)},
		{"the last Version", denies(998, 12), deny(5), 0, denies(999, 5, 12)},
	})
	refuses(t, good(), deny(12), 0, api.ErrTwice)
	for _, id := range []int{0, -1, 10000, math.MinInt, math.MaxInt} {
		refuses(t, good(), deny(id), 0, api.ErrRange)
	}
	refuses(t, with(denies(20, append(eleven, 89)...)), deny(5), 0, api.ErrMany)
	refuses(t, with(denies(20, append(eleven, 89)...)), deny(12), 0, api.ErrTwice)
	refuses(t, with(denies(999, 12)), deny(5), 0, api.ErrMany)
}

// TestK1DenyNobodyLeads: where nobody leads there is no Add, so what Add would say does not come.
func TestK1DenyNobodyLeads(t *testing.T) {
	for name, l := range map[string][]api.View{
		"nobody has ever won":             {{Up: true}, {Up: true}, {Up: true}},
		"the leader is down":              {view(2, 1), gone(2, 1), view(2, 1)},
		"too few are up":                  {gone(2, 1), view(2, 1), gone(2, 1)},
		"the leader is of an elder epoch": {gone(3, 0), view(2, 1), view(2, 1)},
		"all are down":                    {gone(2, 1), gone(2, 1), gone(2, 1)},
	} {
		for _, id := range []int{5, 20, 12, 0, 10000, math.MinInt} {
			t.Run(name, func(t *testing.T) {
				refuses(t, with(seen(l...)), deny(id), 0, api.ErrState)
			})
		}
	}
}

func TestK1UpAndDown(t *testing.T) {
	does(t, []done{
		{"server 0 is up", nothing, up(0), 0, seen(view(1, 0), view(2, 1), view(2, 1))},
		{"server 1 is down", nothing, down(1), 0, seen(gone(1, 0), gone(2, 1), view(2, 1))},
		{"the witness is down", nothing, down(2), 0, seen(gone(1, 0), view(2, 1), gone(2, 1))},
		{"the witness is up again", seen(view(2, 1), view(2, 1), gone(2, 1)), up(2), 0, seen(view(2, 1), view(2, 1), view(2, 1))},
		{"up is up", nothing, up(1), 0, nothing},
		{"down is down", nothing, down(0), 0, nothing},
		{"the last one is down", seen(gone(1, 0), gone(2, 1), view(2, 1)), down(2), 0, seen(gone(1, 0), gone(2, 1), gone(2, 1))},
	})
	for _, of := range []int{-1, 3, math.MinInt, math.MaxInt} {
		refuses(t, good(), up(of), 0, api.ErrRange)
		refuses(t, good(), down(of), 0, api.ErrRange)
	}
}

func TestK1Lead(t *testing.T) {
	few := seen(view(2, 1), gone(2, 1), gone(1, 0))
	last := seen(view(99, 0), view(99, 0), gone(1, 0))
	none := seen(view(2, 1), gone(99, 0), gone(1, 0))
	does(t, []done{
		{"who leads wins again, by the witness", nothing, wants(1), 1, seen(gone(1, 0), view(3, 1), view(3, 1))},
		{"the other one wins", seen(view(1, 0), view(2, 1), view(2, 1)), wants(0), 1, seen(view(3, 0), view(3, 0), view(3, 0))},
		{"by the other one, without the witness", seen(view(1, 0), view(2, 1), gone(2, 1)), wants(0), 1, seen(view(3, 0), view(3, 0), gone(2, 1))},
		{"who led is down", leaderless, wants(1), 0, leaderless},
		{"the first of all", seen(api.View{Up: true}, api.View{Up: true}, api.View{Up: true}), wants(1), 1, seen(view(1, 1), view(1, 1), view(1, 1))},
		{"who is down does not win", nothing, wants(0), 0, nothing},
		{"too few are up", few, wants(0), 0, few},
		{"the last epoch", seen(view(98, 0), view(98, 0), gone(1, 0)), wants(1), 1, seen(view(99, 1), view(99, 1), gone(1, 0))},
		{"no epoch is left, and it would not win", none, wants(0), 0, none},
	})
	refuses(t, with(last), wants(0), 0, api.ErrMany)
	refuses(t, with(last), wants(1), 0, api.ErrMany)
	for _, of := range []int{-1, 2, 3, math.MinInt, math.MaxInt} {
		refuses(t, good(), wants(of), 0, api.ErrRange)
		refuses(t, with(last), wants(of), 0, api.ErrRange)
	}
}

func TestK1Kinds(t *testing.T) {
	for _, kind := range []int{0, 8, -1, 9, math.MinInt, math.MaxInt} {
		for _, a := range []api.Act{{}, ride(5, 0, 150), sell(day(4)), sync(1, 150), {Id: -1, Of: -1, Time: -1, Ticket: api.Ticket{Id: -1}}} {
			a.Kind = kind
			refuses(t, good(), a, 0, api.ErrKind)
			refuses(t, with(leaderless), a, 0, api.ErrKind)
		}
	}
}

// parts of an act, each with what may be written there.
var parts = map[string]func(a *api.Act, n int){
	"Id":     func(a *api.Act, n int) { a.Id = n },
	"Of":     func(a *api.Act, n int) { a.Of = n },
	"Time":   func(a *api.Act, n int) { a.Time = n },
	"ticket": func(a *api.Act, n int) { a.Ticket.Id = n },
	"kind":   func(a *api.Act, n int) { a.Ticket.Kind = n },
	"from":   func(a *api.Act, n int) { a.Ticket.From = n },
	"to":     func(a *api.Act, n int) { a.Ticket.To = n },
	"zones":  func(a *api.Act, n int) { a.Ticket.Zones = n },
	"rides":  func(a *api.Act, n int) { a.Ticket.Rides = n },
}

// TestK1Form: what an act's kind does not name is not there, whatever the call would say, whoever leads.
func TestK1Form(t *testing.T) {
	for _, c := range []struct {
		act   api.Act
		names []string
	}{
		{sell(day(4)), []string{"ticket", "kind", "from", "to", "zones", "rides"}},
		{sell(api.Ticket{}), []string{"ticket", "kind", "from", "to", "zones", "rides"}},
		{ride(5, 0, 150), []string{"Id", "Of", "Time"}},
		{ride(3, 0, 100), []string{"Id", "Of", "Time"}}, // spent
		{ride(0, 0, 0), []string{"Id", "Of", "Time"}},
		{deny(5), []string{"Id"}},
		{deny(0), []string{"Id"}},
		{sync(1, 150), []string{"Of", "Time"}},
		{sync(3, -1), []string{"Of", "Time"}},
		{up(0), []string{"Of"}},
		{up(3), []string{"Of"}},
		{down(2), []string{"Of"}},
		{down(-1), []string{"Of"}},
		{wants(1), []string{"Of"}},
		{wants(2), []string{"Of"}},
	} {
		for name, set := range parts {
			for _, n := range []int{1, -1, 5, math.MinInt, math.MaxInt} {
				a := c.act
				set(&a, n)
				if !slices.Contains(c.names, name) {
					refuses(t, with(bare), a, 0, api.ErrForm)
					refuses(t, with(leaderless), a, 0, api.ErrForm)
				} else if _, _, e := desk.Do(with(bare), a); e == api.ErrForm && a.Kind != api.ActSell {
					t.Errorf("%+v: %s of it may be there", a, name)
				}
			}
		}
	}
}

// fault of a station, or of an act.
type fault struct {
	errno api.Errno
	make  func(s *api.Station, a *api.Act)
}

// TestK1FirstNamed: of several errors the one that is named first tells.
func TestK1FirstNamed(t *testing.T) {
	for name, c := range map[string]struct {
		act  api.Act
		last []fault
	}{
		"sell": {sell(day(4)), []fault{
			{api.ErrState, func(s *api.Station, a *api.Act) { leaderless(s) }},
			{api.ErrRange, func(s *api.Station, a *api.Act) { a.Ticket.Id = 0 }},
		}},
		"tap": {ride(5, 0, 150), []fault{
			{api.ErrRange, func(s *api.Station, a *api.Act) { a.Of = 3 }},
			{api.ErrNone, func(s *api.Station, a *api.Act) { a.Id = 4 }},
		}},
		"deny": {deny(5), []fault{
			{api.ErrState, func(s *api.Station, a *api.Act) { leaderless(s) }},
			{api.ErrRange, func(s *api.Station, a *api.Act) { a.Id = 0 }},
			{api.ErrMany, func(s *api.Station, a *api.Act) { s.Denied.Version = 999 }},
		}},
		"sync": {sync(1, 150), []fault{
			{api.ErrRange, func(s *api.Station, a *api.Act) { a.Of = 3 }},
			{api.ErrState, func(s *api.Station, a *api.Act) { leaderless(s) }},
			{api.ErrRange, func(s *api.Station, a *api.Act) { a.Time = -1 }},
		}},
		"up":   {up(1), []fault{{api.ErrRange, func(s *api.Station, a *api.Act) { a.Of = 3 }}}},
		"down": {down(1), []fault{{api.ErrRange, func(s *api.Station, a *api.Act) { a.Of = -1 }}}},
		"lead": {wants(1), []fault{
			{api.ErrRange, func(s *api.Station, a *api.Act) { a.Of = 2 }},
			{api.ErrMany, func(s *api.Station, a *api.Act) { s.Views[0].Epoch = 99 }},
		}},
	} {
		strange := func(s *api.Station, a *api.Act) {
			if a.Kind == api.ActSell {
				a.Id = 1
			} else {
				a.Ticket.Id = 1
			}
		}
		faults := append([]fault{
			{api.ErrTwice, func(s *api.Station, a *api.Act) { s.Gates[0].Seq = 1 }},
			{api.ErrKind, func(s *api.Station, a *api.Act) { a.Kind = 8 }},
			{api.ErrForm, strange},
		}, c.last...)
		for set := 1; set < 1<<len(faults); set++ {
			s, a, first := good(), c.act, api.OK
			for i, f := range faults {
				if set>>i&1 == 0 {
					continue
				}
				f.make(&s, &a)
				if first == api.OK {
					first = f.errno
				}
			}
			t.Run(fmt.Sprintf("%s %b", name, set), func(t *testing.T) {
				refuses(t, s, a, 0, first)
			})
		}
	}
}

// TestK1WrongStation: what is wrong of a station tells ahead of all else, whatever the act.
func TestK1WrongStation(t *testing.T) {
	for _, c := range []struct {
		want api.Errno
		do   func(*api.Station)
	}{
		{api.ErrForm, func(s *api.Station) { *s = api.Station{} }},
		{api.ErrMany, func(s *api.Station) { s.Ledger.Verdicts = nil }},
		{api.ErrKind, func(s *api.Station) { s.Ledger.Tickets[1].Kind = 0 }},
		{api.ErrState, func(s *api.Station) { s.Ledger.Verdicts[2] = api.Ride }},
		{api.ErrRange, func(s *api.Station) { s.Denied.Version = -1 }},
		{api.ErrForm, func(s *api.Station) { s.Gates = s.Gates[:2] }},
		{api.ErrZone, func(s *api.Station) { s.Gates[2].Zone = 3 }},
		{api.ErrTwice, func(s *api.Station) { s.Ledger.Taps[3].Seq = 4 }},
		{api.ErrForm, func(s *api.Station) { s.Views = nil }},
		{api.ErrState, func(s *api.Station) { s.Views[1].Leader = 0 }},
	} {
		for kind := -1; kind <= 9; kind++ {
			refuses(t, with(c.do), api.Act{Kind: kind}, 0, c.want)
			refuses(t, with(c.do), api.Act{Kind: kind, Id: 5}, 0, c.want)
			refuses(t, with(c.do), api.Act{Kind: kind, Of: 1, Time: 150}, 0, c.want)
			refuses(t, with(c.do), api.Act{Kind: kind, Ticket: day(4)}, 0, c.want)
		}
	}
}

// script is the document's example: two gates that are alone let a Single through, and what was too much is found later; some of its acts have errors.
func script() ([]api.Act, []api.Errno) {
	return acts(
			sell(single(7, 500)), wants(1), sell(single(7, 500)), sell(single(7, 500)), down(1),
			ride(7, 0, 20), ride(7, 0, 30), ride(7, 1, 90), sync(0, 95), wants(1), wants(0),
			sync(1, 95), ride(8, 2, 100), sync(0, 100), ride(7, 2, 110), deny(7), deny(0), deny(9)),
		[]api.Errno{
			api.ErrState, api.OK, api.OK, api.ErrTwice, api.OK,
			api.OK, api.ErrSpent, api.OK, api.ErrState, api.OK, api.OK,
			api.OK, api.ErrNone, api.OK, api.ErrDenied, api.ErrTwice, api.ErrRange, api.OK}
}

func TestK1Run(t *testing.T) {
	l, errnos := script()
	list := api.Denied{Version: 1, Ids: []int{7}}
	want := api.Station{
		Ledger: api.Ledger{Tickets: []api.Ticket{single(7, 500)}, Taps: []api.Tap{tap(7, 0, 1, 20, 1)}, Verdicts: []int{api.Ride}},
		Denied: api.Denied{Version: 2, Ids: []int{7, 9}},
		Gates: []api.Gate{
			{Id: 0, Zone: 1, Seq: 1, Denied: list, Budget: api.Budget{Left: 9, Until: 200}},
			{Id: 1, Zone: 2, Seq: 1, Budget: api.Budget{Left: 9, Until: 195}},
			{Id: 2, Zone: 4, Budget: api.Budget{Left: 9, Until: 100}},
		},
		Views: []api.View{view(2, 0), gone(1, 1), view(2, 0)},
	}
	if s, got, e := desk.Run(l); !same(s, want) || !slices.Equal(got, errnos) || e != api.OK {
		t.Errorf("%+v %v %d, not %+v %v", s, got, e, want, errnos)
	}
}

// TestK1RunPieces: an act that has an error changes nothing, wherever it stands: the script without those of that kind ends as it does with them.
func TestK1RunPieces(t *testing.T) {
	l, errnos := script()
	for n := range len(l) + 1 {
		var right []api.Act
		s := station.New()
		for i, a := range l[:n] {
			if errnos[i] == api.OK {
				right = append(right, a)
				s, _, _ = desk.Do(s, a)
			}
		}
		y, got, e := desk.Run(l[:n])
		if !same(y, s) || !slices.Equal(got, errnos[:n]) || e != api.OK {
			t.Errorf("%d acts: %+v %v %d, not %+v", n, y, got, e, s)
		}
		if z, _, _ := desk.Run(right); !same(z, s) {
			t.Errorf("%d acts: %+v, not %+v", n, z, s)
		}
	}
}

func TestK1RunLimits(t *testing.T) {
	for _, a := range acts(wants(0), down(2), api.Act{}, ride(1, 0, 0)) {
		for n := range api.MaxScript + 1 {
			l := slices.Repeat(acts(a), n)
			s, got, e := desk.Run(l)
			if len(got) != n || e != api.OK || station.Check(s) != api.OK {
				t.Errorf("%d acts: %+v %v %d", n, s, got, e)
			}
		}
		for _, n := range []int{41, 42, 99, 1000} {
			if s, got, e := desk.Run(slices.Repeat(acts(a), n)); !empty(s) || len(got) != 0 || e != api.ErrMany {
				t.Errorf("%d acts: %+v %v %d", n, s, got, e)
			}
		}
	}
	for _, l := range [][]api.Act{nil, {}} {
		if s, got, e := desk.Run(l); !same(s, station.New()) || len(got) != 0 || e != api.OK {
			t.Errorf("%+v %v %d", s, got, e)
		}
	}
	last := append(slices.Repeat(acts(wants(0)), 39), wants(1))
	if s, _, e := desk.Run(last); !slices.Equal(s.Views, views(view(40, 1), view(40, 1), view(40, 1))) || e != api.OK {
		t.Errorf("%+v %d", s.Views, e)
	}
}
