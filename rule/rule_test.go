package rule_test

import (
	"math"
	"math/rand"
	"slices"
	"testing"

	"leeboard/api"
	"leeboard/rule"
)

func single() api.Ticket {
	return api.Ticket{Id: 7, Kind: api.Single, From: 100, To: 500, Zones: 3}
}

func day() api.Ticket {
	return api.Ticket{Id: 7, Kind: api.Day, From: 100, To: 500, Zones: 3}
}

func carnet(rides int) api.Ticket {
	return api.Ticket{Id: 7, Kind: api.Carnet, From: 100, To: 500, Zones: 3, Rides: rides}
}

func tapAt(time, zone int) api.Tap {
	return api.Tap{Ticket: 7, Gate: 1, Seq: 5, Time: time, Zone: zone}
}

// last ride at a time, or none.
func last(times ...int) []api.Tap {
	var was []api.Tap
	for _, time := range times {
		was = append(was, tapAt(time, 1))
	}
	return was
}

func TestC1Edges(t *testing.T) {
	for _, c := range []struct {
		name        string
		least, most int
		set         func(*api.Tap, int)
	}{
		{"Ticket", 1, 9999, func(p *api.Tap, n int) { p.Ticket = n }},
		{"Gate", 0, 2, func(p *api.Tap, n int) { p.Gate = n }},
		{"Seq", 1, 99, func(p *api.Tap, n int) { p.Seq = n }},
		{"Time", 0, 9999, func(p *api.Tap, n int) { p.Time = n }},
	} {
		for n, want := range map[int]api.Errno{
			c.least: api.OK, c.most: api.OK, (c.least + c.most) / 2: api.OK,
			c.least - 1: api.ErrRange, c.most + 1: api.ErrRange, math.MinInt: api.ErrRange, math.MaxInt: api.ErrRange,
		} {
			p := tapAt(200, 2)
			c.set(&p, n)
			if got := rule.Check(p); got != want {
				t.Errorf("%s %d: %d, not %d", c.name, n, got, want)
			}
			p.Zone = 3
			if want == api.OK {
				want = api.ErrZone
			}
			if got := rule.Check(p); got != want {
				t.Errorf("%s %d, and a wrong zone: %d, not %d", c.name, n, got, want)
			}
		}
	}
}

func TestC1Zones(t *testing.T) {
	for zone := -20; zone <= 300; zone++ {
		want := api.ErrZone
		if slices.Contains([]int{1, 2, 4, 8}, zone) {
			want = api.OK
		}
		if got := rule.Check(tapAt(200, zone)); got != want {
			t.Errorf("zone %d: %d, not %d", zone, got, want)
		}
	}
	for _, zone := range []int{math.MinInt, math.MaxInt, 1 << 32, 1<<32 + 1} {
		if got := rule.Check(tapAt(200, zone)); got != api.ErrZone {
			t.Errorf("zone %d: %d", zone, got)
		}
	}
}

func TestC2Verdicts(t *testing.T) {
	for _, c := range []struct {
		name    string
		ticket  api.Ticket
		was     []api.Tap
		rides   int
		tap     api.Tap
		verdict int
		why     api.Errno
	}{
		{"just too early", single(), nil, 0, tapAt(99, 1), api.Refused, api.ErrTime},
		{"at From", single(), nil, 0, tapAt(100, 1), api.Ride, api.OK},
		{"at To", single(), nil, 0, tapAt(500, 2), api.Ride, api.OK},
		{"just too late", single(), nil, 0, tapAt(501, 1), api.Refused, api.ErrTime},
		{"too late to go on", single(), last(499), 1, tapAt(501, 1), api.Refused, api.ErrTime},
		{"another zone", single(), nil, 0, tapAt(100, 4), api.Refused, api.ErrZone},
		{"another zone, going on", day(), last(100), 1, tapAt(101, 8), api.Refused, api.ErrZone},
		{"another zone, and spent", single(), nil, 1, tapAt(101, 8), api.Refused, api.ErrZone},
		{"another zone, too late", single(), nil, 1, tapAt(501, 8), api.Refused, api.ErrTime},
		{"at the last ride's time", single(), last(200), 1, tapAt(200, 1), api.Change, api.OK},
		{"just within the time to go on", single(), last(200), 1, tapAt(259, 2), api.Change, api.OK},
		{"just behind it", single(), last(200), 1, tapAt(260, 2), api.Refused, api.ErrSpent},
		{"just ahead of the last ride", single(), last(200), 1, tapAt(199, 1), api.Refused, api.ErrSpent},
		{"ahead of the last ride, a Day", day(), last(200), 1, tapAt(199, 1), api.Ride, api.OK},
		{"a last ride, and none counted", single(), last(200), 0, tapAt(210, 1), api.Change, api.OK},
		{"long behind it, and none counted", single(), last(200), 0, tapAt(260, 1), api.Ride, api.OK},
		{"no last ride, and one counted", single(), nil, 1, tapAt(210, 1), api.Refused, api.ErrSpent},
		{"a Day just behind", day(), last(200), 1, tapAt(260, 1), api.Ride, api.OK},
		{"a Day of many rides", day(), last(200), 60, tapAt(260, 1), api.Ride, api.OK},
		{"a Carnet's last one", carnet(3), last(200), 2, tapAt(260, 1), api.Ride, api.OK},
		{"a Carnet that is spent", carnet(3), last(200), 3, tapAt(260, 1), api.Refused, api.ErrSpent},
		{"a Carnet that is more than spent", carnet(3), nil, 4, tapAt(260, 1), api.Refused, api.ErrSpent},
		{"a Carnet that is spent goes on", carnet(3), last(200), 60, tapAt(259, 1), api.Change, api.OK},
		{"the last one of several counts", single(), last(200, 300), 1, tapAt(250, 1), api.Refused, api.ErrSpent},
		{"the last one counts, not the latest", single(), last(300, 200), 1, tapAt(250, 1), api.Change, api.OK},
	} {
		if v, e := rule.Judge(c.ticket, c.was, c.rides, c.tap); v != c.verdict || e != c.why {
			t.Errorf("%s: %d %d, not %d %d", c.name, v, e, c.verdict, c.why)
		}
	}
}

// TestC2LastRideElsewhere: where the last ride was has no part in what a tap is, and it need not be in the ticket's time.
func TestC2LastRideElsewhere(t *testing.T) {
	was := []api.Tap{{Ticket: 7, Gate: 0, Seq: 99, Time: 60, Zone: 8}}
	if v, e := rule.Judge(single(), was, 1, tapAt(119, 1)); v != api.Change || e != api.OK {
		t.Errorf("%d %d", v, e)
	}
}

func TestC2RidesEdges(t *testing.T) {
	for rides, want := range map[int]api.Errno{
		0: api.OK, 60: api.OK, -1: api.ErrRange, 61: api.ErrRange, math.MinInt: api.ErrRange, math.MaxInt: api.ErrRange,
	} {
		verdict := api.Ride
		if want != api.OK {
			verdict = 0
		}
		if v, e := rule.Judge(day(), nil, rides, tapAt(200, 1)); v != verdict || e != want {
			t.Errorf("%d rides: %d %d", rides, v, e)
		}
	}
}

// TestC2FirstNamed: of several faults the one that is named first tells, with verdict 0, whatever the verdict would be.
func TestC2FirstNamed(t *testing.T) {
	type asked struct {
		ticket api.Ticket
		was    []api.Tap
		rides  int
		tap    api.Tap
	}
	faults := []struct {
		errno api.Errno
		make  func(*asked)
	}{
		{api.ErrForm, func(a *asked) { a.ticket.Rides = 1 }},
		{api.ErrZone, func(a *asked) { a.tap.Zone = 3 }},
		{api.ErrRange, func(a *asked) { a.rides = 61 }},
		{api.ErrZone, func(a *asked) { a.was[1].Zone = 5 }},
		{api.ErrRange, func(a *asked) { a.was[2] = api.Tap{} }},
		{api.ErrState, func(a *asked) { a.was[0].Ticket = 8 }},
		{api.ErrState, func(a *asked) { a.tap.Ticket = 9999 }},
		{api.ErrTime, func(a *asked) { a.tap.Time = 501 }},
	}
	for set := 1; set < 1<<len(faults); set++ {
		a, want := asked{single(), last(150, 160, 170, 180), 1, tapAt(190, 1)}, api.OK
		for i, f := range faults {
			if set>>i&1 == 0 {
				continue
			}
			f.make(&a)
			if want == api.OK {
				want = f.errno
			}
		}
		verdict := 0
		if want == api.ErrTime {
			verdict = api.Refused
		}
		if v, e := rule.Judge(a.ticket, a.was, a.rides, a.tap); v != verdict || e != want {
			t.Errorf("%+v: %d %d, not %d %d", a, v, e, verdict, want)
		}
	}
}

// TestC2EachOfWas: each of was is looked at, wherever it stands.
func TestC2EachOfWas(t *testing.T) {
	for place := range 5 {
		for _, c := range []struct {
			wrong api.Tap
			want  api.Errno
		}{
			{api.Tap{Ticket: 8, Gate: 1, Seq: 5, Time: 200, Zone: 1}, api.ErrState},
			{api.Tap{Ticket: 8, Gate: 3, Seq: 5, Time: 200, Zone: 1}, api.ErrRange},
			{api.Tap{Ticket: 7, Gate: 1, Seq: 5, Time: -1, Zone: 1}, api.ErrRange},
			{api.Tap{Ticket: 8, Gate: 1, Seq: 5, Time: 200, Zone: 0}, api.ErrZone},
		} {
			was := last(200, 200, 200, 200, 200)
			was[place] = c.wrong
			if v, e := rule.Judge(day(), was, 1, tapAt(210, 1)); v != 0 || e != c.want {
				t.Errorf("%+v at %d: %d %d, not %d", c.wrong, place, v, e, c.want)
			}
		}
	}
}

// TestC2OnlyRead: what is handed in, and what lies behind it, stays.
func TestC2OnlyRead(t *testing.T) {
	room := last(150, 250, 350, 450)
	before := slices.Clone(room)
	for range 2 {
		if v, e := rule.Judge(single(), room[:2], 1, tapAt(260, 1)); v != api.Change || e != api.OK {
			t.Errorf("%d %d", v, e)
		}
	}
	if !slices.Equal(room, before) {
		t.Errorf("%+v was %+v", room, before)
	}
}

// TestC3NeverMore: whatever comes, in whatever order, no more rides are given than there are, each while the ticket is good.
func TestC3NeverMore(t *testing.T) {
	r := rand.New(rand.NewSource(3))
	for range 2000 {
		kind := 1 + r.Intn(3)
		x := api.Ticket{Id: 7, Kind: kind, From: r.Intn(300), Zones: 1 + r.Intn(15)}
		x.To = x.From + r.Intn(600)
		most := 1
		switch kind {
		case api.Carnet:
			x.Rides = 2 + r.Intn(8)
			most = x.Rides
		case api.Day:
			most = 60
		}
		neverMore(t, r, x, most)
	}
}

func neverMore(t *testing.T, r *rand.Rand, x api.Ticket, most int) {
	t.Helper()
	var was []api.Tap
	for range 60 {
		p := tapAt(r.Intn(1000), 1<<r.Intn(4))
		v, e := rule.Judge(x, was, len(was), p)
		if (v == api.Refused) != (e != api.OK) || v < api.Ride || v > api.Refused {
			t.Fatalf("%+v %+v: %d %d", x, p, v, e)
		}
		if v != api.Refused && (p.Time < x.From || p.Time > x.To || x.Zones&p.Zone == 0) {
			t.Fatalf("%+v lets through %+v", x, p)
		}
		if v == api.Ride {
			was = append(was, p)
		}
	}
	if len(was) > most {
		t.Fatalf("%+v gives %d rides", x, len(was))
	}
}
