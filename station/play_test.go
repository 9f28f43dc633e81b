package station_test

import (
	"math/rand"
	"slices"
	"testing"

	"leeboard/api"
	"leeboard/lead"
	"leeboard/station"
)

func copiedList(d api.Denied) api.Denied {
	return api.Denied{Version: d.Version, Ids: slices.Clone(d.Ids)}
}

func copied(s api.Station) api.Station {
	s.Ledger = api.Ledger{Tickets: slices.Clone(s.Ledger.Tickets), Taps: slices.Clone(s.Ledger.Taps), Verdicts: slices.Clone(s.Ledger.Verdicts)}
	s.Denied, s.Gates, s.Views = copiedList(s.Denied), slices.Clone(s.Gates), slices.Clone(s.Views)
	for i, g := range s.Gates {
		s.Gates[i].Alone, s.Gates[i].Denied = slices.Clone(g.Alone), copiedList(g.Denied)
	}
	return s
}

// room of a list: it, with what lies behind it.
func room[T any](l []T) []T { return l[:cap(l)] }

// whole station, with the spare room behind each of its lists.
func whole(s api.Station) api.Station {
	s.Ledger = api.Ledger{Tickets: room(s.Ledger.Tickets), Taps: room(s.Ledger.Taps), Verdicts: room(s.Ledger.Verdicts)}
	s.Denied.Ids, s.Gates, s.Views = room(s.Denied.Ids), slices.Clone(room(s.Gates)), room(s.Views)
	for i, g := range s.Gates {
		s.Gates[i].Alone, s.Gates[i].Denied.Ids = room(g.Alone), room(g.Denied.Ids)
	}
	return s
}

// over all that a list holds, the spare room too, something else is written.
func over[T any](l []T, other T) func() {
	return func() {
		for i := range room(l) {
			room(l)[i] = other
		}
	}
}

// parts of a station: for each of its lists what scrawls over that one alone.
func parts(s api.Station) []func() {
	p := tap(-7, -7, -7, -7, -7)
	out := []func(){
		over(s.Ledger.Tickets, api.Ticket{Id: -7}), over(s.Ledger.Taps, p), over(s.Ledger.Verdicts, -7),
		over(s.Denied.Ids, -7), over(s.Views, api.View{Epoch: -7}),
	}
	for _, g := range s.Gates {
		out = append(out, over(g.Alone, p), over(g.Denied.Ids, -7))
	}
	return append(out, over(s.Gates, api.Gate{Id: -7}))
}

// scrawl over all lists of a station.
func scrawl(s api.Station) {
	for _, over := range parts(s) {
		over()
	}
}

// TestP2NewMemory: what is handed in is only read; what is answered is new, and no two lists of it are one; and a later call answers the same, whatever was done with either.
func TestP2NewMemory(t *testing.T) {
	sync := func(n int) func(api.Station) (api.Station, []api.Tap, api.Errno) {
		return func(s api.Station) (api.Station, []api.Tap, api.Errno) { return station.Sync(s, n, 150) }
	}
	taps := func(id, n int) func(api.Station) (api.Station, []api.Tap, api.Errno) {
		return func(s api.Station) (api.Station, []api.Tap, api.Errno) {
			y, _, e := station.Tap(s, id, n, 150)
			return y, nil, e
		}
	}
	for _, c := range []struct {
		name string
		do   func(*api.Station)
		call func(api.Station) (api.Station, []api.Tap, api.Errno)
	}{
		{"Sell", func(*api.Station) {}, func(s api.Station) (api.Station, []api.Tap, api.Errno) {
			y, e := station.Sell(s, day(10))
			return y, nil, e
		}},
		{"Tap that is entered", bare, taps(9, 0)},
		{"Tap where nobody leads", leaderless, taps(9, 0)},
		{"Tap at a gate that has some Alone", func(*api.Station) {}, taps(9, 1)},
		{"Sync with nothing to tell", func(*api.Station) {}, sync(0)},
		{"Sync with nothing told", func(*api.Station) {}, sync(1)},
		{"Sync with some told", alone(2, at(80, 3), at(81, 50)), sync(2)},
		{"Sync with some told, and no room", func(s *api.Station) { s.Denied.Version = 999; alone(2, at(80, 3), at(81, 50))(s) }, sync(2)},
	} {
		s := with(c.do)
		before := copied(whole(s))
		y, told, e := c.call(s)
		if e != api.OK || !same(whole(s), before) {
			t.Errorf("%s changed what it was handed (%d)", c.name, e)
		}
		first, firstTold := copied(y), slices.Clone(told)
		for i := range parts(y) {
			y, told, _ := c.call(s)
			if !same(y, first) || !slices.Equal(told, firstTold) {
				t.Fatalf("%s answers something else when its answer was changed", c.name)
			}
			twin := copied(y)
			parts(y)[i]()
			parts(twin)[i]()
			if !same(y, twin) || !slices.Equal(told, firstTold) {
				t.Errorf("%s: list %d of its answer shares memory with another one", c.name, i)
			}
			if !same(whole(s), before) {
				t.Fatalf("%s hands out what it was handed", c.name)
			}
		}
		y, told, _ = c.call(s)
		over(told, api.Tap{Seq: -7})()
		if !same(y, first) || !same(whole(s), before) {
			t.Errorf("%s: what was told shares memory", c.name)
		}
		y, told, _ = c.call(s)
		scrawl(s)
		if !same(y, first) || !slices.Equal(told, firstTold) {
			t.Errorf("%s keeps what it was handed", c.name)
		}
	}
}

// TestP2Later: stations and views that were answered, and then changed, change nothing that a later call answers.
func TestP2Later(t *testing.T) {
	play := func(spoil bool) (api.Station, []api.Tap) {
		s := station.New()
		then := func(y api.Station, e api.Errno) {
			if e != api.OK {
				t.Fatal(e)
			}
			s = copied(y)
			if spoil {
				scrawl(y)
			}
		}
		views, _, e := lead.Win(s.Views, 0)
		s.Views = slices.Clone(views)
		if spoil {
			over(views, api.View{Epoch: 99, Leader: 1})()
		}
		then(s, e)
		then(station.Sell(s, api.Ticket{Id: 7, Kind: api.Single, To: 500, Zones: 15}))
		y, _, e := station.Tap(s, 7, 0, 20)
		then(y, e)
		views, e = lead.Set(s.Views, 0, false)
		s.Views = slices.Clone(views)
		if spoil {
			over(views, api.View{})()
		}
		then(s, e)
		y, _, e = station.Tap(s, 7, 1, 90)
		then(y, e)
		s.Views, _ = lead.Set(s.Views, 0, true)
		y, told, e := station.Sync(s, 1, 95)
		kept := slices.Clone(told)
		then(y, e)
		if spoil {
			over(told, api.Tap{})()
		}
		y, _, e = station.Sync(s, 2, 95)
		then(y, e)
		return s, kept
	}
	a, told := play(false)
	b, again := play(true)
	if !same(a, b) || !slices.Equal(told, again) || len(told) != 1 || !slices.Equal(a.Denied.Ids, []int{7}) {
		t.Errorf("%+v %v, then %+v %v", a, told, b, again)
	}
}

// TestP3SameAgain: a call changes nothing that a later one could tell.
func TestP3SameAgain(t *testing.T) {
	a, told, e := station.Sync(with(alone(2, at(80, 3))), 2, 150)
	station.Sync(with(alone(2, at(80, 9), at(90, 50))), 2, 170)
	station.Tap(good(), 5, 0, 200)
	station.Tap(with(leaderless), 5, 0, 200)
	station.Sell(good(), day(6))
	station.New()
	b, again, f := station.Sync(with(alone(2, at(80, 3))), 2, 150)
	if !same(a, b) || !slices.Equal(told, again) || e != f {
		t.Errorf("%+v %v %d, then %+v %v %d", a, told, e, b, again, f)
	}
}

// TestJ3Example: two gates that are alone both let a Single through; whichever tells first, the first ride is in the ledger, the second is told, and the ticket is denied from then on.
func TestJ3Example(t *testing.T) {
	for _, order := range [][]int{{0, 1}, {1, 0}} {
		s := station.New()
		s.Views, _, _ = lead.Win(s.Views, 1)
		s, _ = station.Sell(s, api.Ticket{Id: 7, Kind: api.Single, To: 500, Zones: 15})
		s.Views, _ = lead.Set(s.Views, 1, false)
		s, _, _ = station.Tap(s, 7, 0, 20)
		s, _, _ = station.Tap(s, 7, 1, 90)
		s.Views, _, _ = lead.Win(s.Views, 0)
		var out []api.Tap
		for _, n := range order {
			y, told, e := station.Sync(s, n, 100)
			if e != api.OK {
				t.Fatal(e)
			}
			s, out = y, append(out, told...)
		}
		list := api.Denied{Version: 1, Ids: []int{7}}
		if !slices.Equal(s.Ledger.Taps, []api.Tap{tap(7, 0, 1, 20, 1)}) || !slices.Equal(s.Ledger.Verdicts, []int{api.Ride}) || !slices.Equal(out, []api.Tap{tap(7, 1, 1, 90, 2)}) || !sameList(s.Denied, list) {
			t.Errorf("%v: %+v %v", order, s, out)
		}
		refusesTap(t, s, 7, 2, 100, 0, api.ErrDenied)
		// A gate that has heard of it denies it alone, too.
		last := order[1]
		s.Views, _ = lead.Set(s.Views, 0, false)
		refusesTap(t, s, 7, last, 101, 0, api.ErrDenied)
		if y, _, e := station.Tap(s, 7, 2, 100); e != api.OK || len(y.Gates[2].Alone) != 1 {
			t.Errorf("%v: %+v %d", order, y, e)
		}
	}
}

// model works out by itself what a station is. Its ledger, list and gates are a station's; nothing else of the program says what becomes of them.
type model struct{ api.Station }

// judged: of taps, in that order, which ones are let through, as what, and why the others are not.
func judged(tickets []api.Ticket, taps []api.Tap) (in []api.Tap, verdicts []int, out []api.Tap, why []api.Errno) {
	last, left := map[int]int{}, map[int]int{}
	sold := map[int]api.Ticket{}
	for _, x := range tickets {
		sold[x.Id], left[x.Id], last[x.Id] = x, map[int]int{api.Single: 1, api.Day: 1000, api.Carnet: x.Rides}[x.Kind], -1000
	}
	for _, p := range taps {
		x := sold[p.Ticket]
		errno := api.OK
		switch change := p.Time-last[x.Id] < 60; {
		case x.Id == 0:
			errno = api.ErrNone
		case p.Time < x.From || p.Time > x.To:
			errno = api.ErrTime
		case x.Zones/p.Zone%2 == 0:
			errno = api.ErrZone
		case change:
			verdicts = append(verdicts, api.Change)
		case left[x.Id] == 0:
			errno = api.ErrSpent
		default:
			verdicts = append(verdicts, api.Ride)
			last[x.Id] = p.Time
			left[x.Id]--
		}
		if errno == api.OK {
			in = append(in, p)
		} else {
			out, why = append(out, p), append(why, errno)
		}
	}
	return in, verdicts, out, why
}

func (m *model) sell(x api.Ticket, led bool) api.Errno {
	place := 0
	for _, y := range m.Ledger.Tickets {
		if y.Id == x.Id && led {
			return api.ErrTwice
		}
		if y.Id < x.Id {
			place++
		}
	}
	if !led {
		return api.ErrState
	}
	if len(m.Ledger.Tickets) == 12 {
		return api.ErrMany
	}
	m.Ledger.Tickets = slices.Insert(m.Ledger.Tickets, place, x)
	return api.OK
}

func (m *model) tap(id, n, time int, led bool) (int, api.Errno) {
	place := slices.IndexFunc(m.Ledger.Tickets, func(x api.Ticket) bool { return x.Id == id })
	if place < 0 {
		return 0, api.ErrNone
	}
	g := &m.Gates[n]
	p := tap(id, n, g.Seq+1, time, g.Zone)
	if !led || len(g.Alone) > 0 {
		return 0, m.tapAlone(g, m.Ledger.Tickets[place], p)
	}
	if slices.Contains(m.Denied.Ids, id) {
		return 0, api.ErrDenied
	}
	if g.Seq == 99 {
		return 0, api.ErrMany
	}
	if k := len(m.Ledger.Taps); k > 0 && m.Ledger.Taps[k-1].Time > time {
		return 0, api.ErrState
	}
	in, verdicts, _, why := judged(m.Ledger.Tickets, append(slices.Clone(m.Ledger.Taps), p))
	if len(why) > 0 {
		return api.Refused, why[0]
	}
	if len(in) > 60 {
		return 0, api.ErrMany
	}
	m.Ledger.Taps, m.Ledger.Verdicts, g.Seq = in, verdicts, g.Seq+1
	return verdicts[len(verdicts)-1], api.OK
}

func (m *model) tapAlone(g *api.Gate, x api.Ticket, p api.Tap) api.Errno {
	k, again := len(g.Alone), slices.ContainsFunc(g.Alone, func(q api.Tap) bool { return q.Ticket == x.Id })
	switch {
	case k > 0 && g.Alone[k-1].Time > p.Time:
		return api.ErrState
	case slices.Contains(g.Denied.Ids, x.Id):
		return api.ErrDenied
	case p.Time < x.From || p.Time > x.To || p.Time > g.Budget.Until:
		return api.ErrTime
	case x.Zones/g.Zone%2 == 0:
		return api.ErrZone
	case g.Budget.Left == 0 || x.Kind != api.Day && again:
		return api.ErrSpent
	case k == 12 || g.Seq == 99:
		return api.ErrMany
	}
	g.Seq++
	g.Budget.Left--
	g.Alone = append(g.Alone, p)
	return api.OK
}

func (m *model) sync(n, time int, led bool) ([]api.Tap, api.Errno) {
	if !led {
		return nil, api.ErrState
	}
	g := &m.Gates[n]
	key := func(p api.Tap) int { return 1000*p.Time + 100*p.Gate + p.Seq }
	taps := slices.Concat(m.Ledger.Taps, g.Alone)
	slices.SortFunc(taps, func(p, q api.Tap) int { return key(p) - key(q) })
	in, verdicts, told, _ := judged(m.Ledger.Tickets, taps)
	if len(in) > 60 {
		return nil, api.ErrMany
	}
	m.Ledger.Taps, m.Ledger.Verdicts = in, verdicts
	for _, p := range told {
		if !slices.Contains(m.Denied.Ids, p.Ticket) && len(m.Denied.Ids) < 12 && m.Denied.Version < 999 {
			m.Denied.Ids = append(m.Denied.Ids, p.Ticket)
			m.Denied.Version++
			slices.Sort(m.Denied.Ids)
		}
	}
	*g = api.Gate{Id: n, Zone: g.Zone, Seq: g.Seq, Denied: copiedList(m.Denied), Budget: api.Budget{Left: 9, Until: time + 100}}
	return told, api.OK
}

// start of a play: a new station, or one that is near some limit, with some tickets.
func start(r *rand.Rand) api.Station {
	s := station.New()
	for i := range s.Gates {
		s.Gates[i].Zone = 1 << r.Intn(4)
		s.Gates[i].Budget.Until = r.Intn(1000)
		if r.Intn(4) == 0 {
			s.Gates[i].Seq = 60 + r.Intn(40)
		}
	}
	days := r.Intn(2) == 0 // of which a ledger gets full
	for id := range 1 + r.Intn(12) {
		x := some(r)
		x.Id = 1 + id
		if days && id < 9 {
			x = day(1 + id)
		}
		s.Ledger.Tickets = append(s.Ledger.Tickets, x)
	}
	if days && r.Intn(3) == 0 {
		crowded(&s, 45+r.Intn(16))
	}
	switch r.Intn(4) {
	case 0:
		s.Denied.Version = 995 + r.Intn(5)
	case 1:
		s.Denied.Version = 20
		for id := range 9 + r.Intn(4) {
			s.Denied.Ids = append(s.Denied.Ids, 5000+id)
		}
	}
	return s
}

// crowded: a ledger of n taps of its first ticket, a Day.
func crowded(s *api.Station, n int) {
	for i := range n {
		s.Ledger.Taps = append(s.Ledger.Taps, tap(1, i%3, i/3+1, i, 1))
	}
	s.Ledger.Taps, s.Ledger.Verdicts, _, _ = judged(s.Ledger.Tickets, s.Ledger.Taps)
	for i := range s.Gates {
		s.Gates[i].Seq = max(s.Gates[i].Seq, 20)
	}
}

// some ticket.
func some(r *rand.Rand) api.Ticket {
	x := api.Ticket{Id: 1 + r.Intn(14), Kind: 1 + r.Intn(3), From: r.Intn(60), Zones: 15}
	if r.Intn(3) == 0 {
		x.Zones = 1 + r.Intn(15)
	}
	x.To = x.From + 100 + r.Intn(1500)
	if x.Kind == api.Carnet {
		x.Rides = 2 + r.Intn(3)
	}
	return x
}

// voted: somebody wants to lead, or a voter is up, or down.
func voted(r *rand.Rand, views []api.View) []api.View {
	if r.Intn(2) == 0 {
		if y, _, e := lead.Win(views, r.Intn(2)); e == api.OK {
			return y
		}
	}
	y, _ := lead.Set(views, r.Intn(3), r.Intn(3) > 0)
	return y
}

// play of a station, beside its model.
type play struct {
	*testing.T
	api.Station
	model
	seen map[answer]int
}

// answer to an act.
type answer struct {
	act   string
	errno api.Errno
}

// came: what an act answered, and what the model says; without an error the station is what it answered.
func (p *play) came(act string, y api.Station, e, want api.Errno) {
	p.Helper()
	if e != want {
		p.Fatalf("%s of %+v: %d, not %d", act, p.Station, e, want)
	}
	p.seen[answer{act, e}]++
	if e != api.OK {
		if !empty(y) {
			p.Fatalf("%s of %+v: %+v beside %d", act, p.Station, y, e)
		}
		return
	}
	p.model.Views = y.Views
	if !same(y, p.model.Station) || !slices.Equal(y.Views, p.Station.Views) {
		p.Fatalf("%s of %+v: %+v, not %+v", act, p.Station, y, p.model.Station)
	}
	p.Station = y
}

// act: one of all that may be done at a time.
func (p *play) act(r *rand.Rand, time int) {
	p.Helper()
	_, led, _ := lead.Now(p.Station.Views)
	switch n := r.Intn(3); r.Intn(12) {
	case 0:
		p.Station.Views = voted(r, p.Station.Views)
	case 1:
		x := some(r)
		y, e := station.Sell(p.Station, x)
		p.came("sell", y, e, p.model.sell(x, led))
	case 2, 3:
		told, want := p.model.sync(n, time, led)
		y, out, e := station.Sync(p.Station, n, time)
		if !slices.Equal(out, told) {
			p.Fatalf("%+v, gate %d, tells %v, not %v", p.Station, n, out, told)
		}
		for _, q := range told {
			if slices.Contains(p.Station.Gates[n].Alone, q) {
				p.seen[answer{"told", api.OK}]++
			} else {
				p.seen[answer{"told of the ledger's own", api.OK}]++
			}
		}
		p.came("sync", y, e, want)
	default:
		id := 1 + r.Intn(14)
		verdict, want := p.model.tap(id, n, time, led)
		y, v, e := station.Tap(p.Station, id, n, time)
		if v != verdict {
			p.Fatalf("%+v, %d at gate %d, %d: verdict %d, not %d", p.Station, id, n, time, v, verdict)
		}
		p.came("tap", y, e, want)
	}
}

// right: what J3 says of a station, and what it hangs on.
func (p *play) right() {
	p.Helper()
	if e := station.Check(p.Station); e != api.OK {
		p.Fatalf("%+v: %d", p.Station, e)
	}
	for _, g := range p.Station.Gates {
		if len(g.Alone) > 9 || len(g.Alone)+g.Budget.Left > 9 {
			p.Fatalf("%+v let through more than a budget", g)
		}
	}
	rides := map[int]int{}
	for i, q := range p.Station.Ledger.Taps {
		if p.Station.Ledger.Verdicts[i] == api.Ride {
			rides[q.Ticket]++
		}
	}
	for _, x := range p.Station.Ledger.Tickets {
		if n := rides[x.Id]; x.Kind == api.Single && n > 1 || x.Kind == api.Carnet && n > x.Rides {
			p.Fatalf("%+v has %d rides", x, n)
		}
	}
}

// TestJ3FoundLater: whoever leads, and whatever comes, a station is right, and is what an own count of it says: what nobody leads is let through within budgets, found later, and denied from then on.
func TestJ3FoundLater(t *testing.T) {
	r := rand.New(rand.NewSource(10))
	seen := map[answer]int{}
	for range 400 {
		s := start(r)
		p := &play{T: t, Station: s, model: model{copied(s)}, seen: seen}
		pace := 2 + r.Intn(16)
		for time := 0; time < 100*pace; time += r.Intn(pace) {
			p.act(r, max(0, time-r.Intn(20)*r.Intn(2)))
			p.right()
		}
	}
	for act, errnos := range map[string][]api.Errno{
		"sell":                     {api.OK, api.ErrMany, api.ErrState, api.ErrTwice},
		"tap":                      {api.OK, api.ErrMany, api.ErrState, api.ErrNone, api.ErrTime, api.ErrZone, api.ErrSpent, api.ErrDenied},
		"sync":                     {api.OK, api.ErrMany, api.ErrState},
		"told":                     {api.OK},
		"told of the ledger's own": {api.OK},
	} {
		for _, e := range errnos {
			if seen[answer{act, e}] < 30 {
				t.Errorf("%s came with %d %d times only: that tells little", act, e, seen[answer{act, e}])
			}
		}
	}
}
