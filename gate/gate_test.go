package gate_test

import (
	"math"
	"math/rand"
	"slices"
	"testing"

	"leeboard/api"
	"leeboard/denied"
	"leeboard/gate"
)

// here is a tap at the gate that good is.
func here(id, seq, time int) api.Tap {
	return api.Tap{Ticket: id, Gate: 1, Seq: seq, Time: time, Zone: 2}
}

// good is a gate that let three through alone; behind its lists there is spare room.
func good() api.Gate {
	g := api.Gate{
		Id: 1, Zone: 2, Seq: 7, Alone: make([]api.Tap, 0, 20),
		Denied: api.Denied{Version: 5, Ids: make([]int, 0, 20)},
		Budget: api.Budget{Left: 6, Until: 200},
	}
	g.Alone = append(g.Alone, here(30, 5, 40), here(31, 6, 50), here(32, 7, 50))
	g.Denied.Ids = append(g.Denied.Ids, 60, 66)
	return g
}

// full is a gate that let n through alone, and has a whole budget left.
func full(n int) api.Gate {
	g := good()
	g.Alone, g.Seq, g.Budget.Left = nil, n, 9
	for i := range n {
		g.Alone = append(g.Alone, here(100+i, i+1, 50))
	}
	return g
}

func day(id int) api.Ticket {
	return api.Ticket{Id: id, Kind: api.Day, From: 10, To: 300, Zones: 2}
}

func single(id int) api.Ticket {
	return api.Ticket{Id: id, Kind: api.Single, From: 10, To: 300, Zones: 3}
}

func carnet(id int) api.Ticket {
	return api.Ticket{Id: id, Kind: api.Carnet, From: 10, To: 300, Zones: 15, Rides: 9}
}

func same(a, b api.Gate) bool {
	return a.Id == b.Id && a.Zone == b.Zone && a.Seq == b.Seq && slices.Equal(a.Alone, b.Alone) &&
		a.Denied.Version == b.Denied.Version && slices.Equal(a.Denied.Ids, b.Denied.Ids) && a.Budget == b.Budget
}

func empty(g api.Gate) bool { return same(g, api.Gate{}) }

// refuses: each call tells of a gate's fault ahead of all else.
func refuses(t *testing.T, g api.Gate, want api.Errno) {
	t.Helper()
	if got := gate.Check(g); got != want {
		t.Errorf("Check says %d, not %d", got, want)
	}
	for _, x := range []api.Ticket{day(9), {}, {Id: 9, Kind: 4, Zones: 1}, carnet(60)} {
		if y, p, e := gate.Tap(g, x, 60); !empty(y) || p != (api.Tap{}) || e != want {
			t.Errorf("Tap says %+v %+v %d, not %d", y, p, e, want)
		}
	}
	for _, d := range []api.Denied{{}, {Version: -1}, {Ids: []int{5}}, {Version: 99, Ids: make([]int, 13)}} {
		if y, l, e := gate.Sync(g, d, -1); !empty(y) || len(l) != 0 || e != want {
			t.Errorf("Sync says %+v %+v %d, not %d", y, l, e, want)
		}
	}
}

func TestF1Good(t *testing.T) {
	for name, do := range map[string]func(*api.Gate){
		"three alone":                func(*api.Gate) {},
		"nothing at all":             func(g *api.Gate) { *g = api.Gate{Zone: 1} },
		"empty lists":                func(g *api.Gate) { g.Alone, g.Denied.Ids = []api.Tap{}, []int{} },
		"none alone, and a Seq":      func(g *api.Gate) { g.Alone, g.Seq = nil, 99 },
		"the last ones alone":        func(g *api.Gate) { g.Alone = g.Alone[1:] },
		"as many as may be":          func(g *api.Gate) { *g = full(12) },
		"all numbers at their least": func(g *api.Gate) { *g = api.Gate{Zone: 8, Alone: []api.Tap{{Ticket: 1, Seq: 1, Zone: 8}}, Seq: 1} },
		"all numbers at their most": func(g *api.Gate) {
			*g = api.Gate{
				Id: 2, Zone: 4, Seq: 99, Alone: []api.Tap{{Ticket: 9999, Gate: 2, Seq: 99, Time: 9999, Zone: 4}},
				Denied: api.Denied{Version: 999}, Budget: api.Budget{Left: 9, Until: 10099},
			}
		},
		"one ticket often":        func(g *api.Gate) { g.Alone[0].Ticket, g.Alone[2].Ticket = 31, 31 },
		"one that is denied":      func(g *api.Gate) { g.Alone[1].Ticket = 60 },
		"taps that are behind":    func(g *api.Gate) { g.Budget.Until = 0 },
		"nothing left, and alone": func(g *api.Gate) { g.Budget.Left = 0 },
	} {
		g := good()
		do(&g)
		if got := gate.Check(g); got != api.OK {
			t.Errorf("%s: %d", name, got)
		}
	}
}

func TestF1Edges(t *testing.T) {
	for _, c := range []struct {
		name        string
		least, most int
		set         func(*api.Gate, int)
	}{
		{"Id", 0, 2, func(g *api.Gate, n int) { g.Id = n }},
		{"Seq", 0, 99, func(g *api.Gate, n int) { g.Seq = n }},
		{"Version", 2, 999, func(g *api.Gate, n int) { g.Denied.Version = n }},
		{"Left", 0, 9, func(g *api.Gate, n int) { g.Budget.Left = n }},
		{"Until", 0, 10099, func(g *api.Gate, n int) { g.Budget.Until = n }},
	} {
		for n, want := range map[int]api.Errno{
			c.least: api.OK, c.most: api.OK, (c.least + c.most) / 2: api.OK,
			-1: api.ErrRange, c.most + 1: api.ErrRange, math.MinInt: api.ErrRange, math.MaxInt: api.ErrRange,
		} {
			t.Run(c.name, func(t *testing.T) {
				g := good()
				g.Alone = nil
				c.set(&g, n)
				if want != api.OK {
					refuses(t, g, want)
				} else if got := gate.Check(g); got != want {
					t.Errorf("%d: %d", n, got)
				}
			})
		}
	}
}

func TestF1Zones(t *testing.T) {
	for _, zone := range []int{-1, 0, 1, 2, 3, 4, 5, 7, 8, 9, 15, 16, math.MinInt, math.MaxInt} {
		want := api.ErrZone
		if slices.Contains([]int{1, 2, 4, 8}, zone) {
			want = api.OK
		}
		g := good()
		g.Alone, g.Zone = nil, zone
		if got := gate.Check(g); got != want {
			t.Errorf("zone %d: %d, not %d", zone, got, want)
		}
	}
}

func TestF1Faults(t *testing.T) {
	for _, c := range []struct {
		name string
		want api.Errno
		do   func(*api.Gate)
	}{
		{"no zone", api.ErrZone, func(g *api.Gate) { g.Zone = 3 }},
		{"too many", api.ErrMany, func(g *api.Gate) { *g = full(13) }},
		{"far too many", api.ErrMany, func(g *api.Gate) { g.Alone = make([]api.Tap, 500) }},
		{"a wrong ticket", api.ErrRange, func(g *api.Gate) { g.Alone[2].Ticket = 0 }},
		{"a wrong time", api.ErrRange, func(g *api.Gate) { g.Alone[2].Time = 10000 }},
		{"a wrong gate", api.ErrRange, func(g *api.Gate) { g.Alone[0].Gate = 3 }},
		{"Seq 0", api.ErrRange, func(g *api.Gate) { g.Alone[0].Seq = 0 }},
		{"a tap of no zone", api.ErrZone, func(g *api.Gate) { g.Alone[1].Zone = 6 }},
		{"another gate's", api.ErrState, func(g *api.Gate) { g.Alone[0].Gate = 0 }},
		{"another gate's, the last one", api.ErrState, func(g *api.Gate) { g.Alone[2].Gate = 2 }},
		{"another zone's", api.ErrState, func(g *api.Gate) { g.Alone[0].Zone = 1 }},
		{"another zone's, the last one", api.ErrState, func(g *api.Gate) { g.Alone[2].Zone = 8 }},
		{"less in time", api.ErrState, func(g *api.Gate) { g.Alone[1].Time = 39 }},
		{"less in time, the last one", api.ErrState, func(g *api.Gate) { g.Alone[2].Time = 49 }},
		{"a Seq again", api.ErrState, func(g *api.Gate) { g.Alone[1].Seq, g.Alone[2].Seq, g.Seq = 5, 6, 6 }},
		{"a Seq left out", api.ErrState, func(g *api.Gate) { g.Alone[0].Seq = 4 }},
		{"a Seq left out, the last one", api.ErrState, func(g *api.Gate) { g.Alone[2].Seq, g.Seq = 8, 8 }},
		{"Seqs that fall", api.ErrState, func(g *api.Gate) { g.Alone[0].Seq, g.Alone[2].Seq, g.Seq = 7, 5, 5 }},
		{"the gate's Seq one more", api.ErrState, func(g *api.Gate) { g.Seq = 8 }},
		{"the gate's Seq one less", api.ErrState, func(g *api.Gate) { g.Seq = 6 }},
		{"the gate's Seq 0", api.ErrState, func(g *api.Gate) { g.Seq = 0 }},
		{"the first one alone", api.ErrState, func(g *api.Gate) { g.Alone = g.Alone[:1] }},
		{"a denied id that is none", api.ErrRange, func(g *api.Gate) { g.Denied.Ids[1] = 10000 }},
		{"too many denied", api.ErrMany, func(g *api.Gate) { g.Denied.Ids = make([]int, 13) }},
		{"a Version that is less", api.ErrState, func(g *api.Gate) { g.Denied.Version = 1 }},
		{"denied ids that fall", api.ErrState, func(g *api.Gate) { g.Denied.Ids[0] = 67 }},
	} {
		t.Run(c.name, func(t *testing.T) {
			g := good()
			c.do(&g)
			refuses(t, g, c.want)
		})
	}
}

// fault of a gate or of what is asked of it.
type fault struct {
	errno api.Errno
	make  func(a *asked)
}

// asked is what a call is handed.
type asked struct {
	gate   api.Gate
	ticket api.Ticket
	list   api.Denied
	time   int
}

// firstNamed goes through all sets of faults, each of which the first one is to tell.
func firstNamed(faults []fault, ask func(set int, first api.Errno, a asked)) {
	for set := 1; set < 1<<len(faults); set++ {
		a, first := asked{gate: good(), ticket: single(9), list: api.Denied{Version: 9, Ids: []int{7}}, time: 60}, api.OK
		for i, f := range faults {
			if set>>i&1 == 0 {
				continue
			}
			f.make(&a)
			if first == api.OK {
				first = f.errno
			}
		}
		ask(set, first, a)
	}
}

// TestF1FirstNamed: of several faults of a gate the one that is named first tells; some of them are about one tap.
func TestF1FirstNamed(t *testing.T) {
	check := func(set int, first api.Errno, a asked) {
		if got := gate.Check(a.gate); got != first {
			t.Errorf("set %b: %d, not %d", set, got, first)
		}
	}
	firstNamed([]fault{
		{api.ErrRange, func(a *asked) { a.gate.Id = 3 }},
		{api.ErrRange, func(a *asked) { a.gate.Seq = -1 }},
		{api.ErrZone, func(a *asked) { a.gate.Zone = 6 }},
		{api.ErrMany, func(a *asked) { a.gate.Alone = append(a.gate.Alone, make([]api.Tap, 10)...) }},
		{api.ErrRange, func(a *asked) { a.gate.Alone[1].Ticket = 0 }},
		{api.ErrZone, func(a *asked) { a.gate.Alone[1].Zone = 7 }},
		{api.ErrState, func(a *asked) { a.gate.Alone[1].Gate = 0 }},
		{api.ErrRange, func(a *asked) { a.gate.Denied.Version = -1 }},
		{api.ErrMany, func(a *asked) { a.gate.Denied.Ids = make([]int, 13) }},
		{api.ErrRange, func(a *asked) { a.gate.Budget.Left = 10 }},
		{api.ErrRange, func(a *asked) { a.gate.Budget.Until = -1 }},
	}, check)
	firstNamed([]fault{
		{api.ErrMany, func(a *asked) { a.gate.Alone = append(a.gate.Alone, make([]api.Tap, 10)...) }},
		{api.ErrZone, func(a *asked) { a.gate.Alone[2].Zone = 0 }},
		{api.ErrState, func(a *asked) { a.gate.Seq = 8 }},
		{api.ErrMany, func(a *asked) { a.gate.Denied.Ids = make([]int, 13) }},
		{api.ErrRange, func(a *asked) { a.gate.Budget.Until = 10100 }},
	}, check)
}

// TestF1ThingByThing: of several taps the first one that is wrong tells, whatever is wrong of it.
func TestF1ThingByThing(t *testing.T) {
	wrong := []struct {
		errno api.Errno
		do    func(*api.Tap)
	}{
		{api.ErrRange, func(p *api.Tap) { p.Ticket = 10000 }},
		{api.ErrZone, func(p *api.Tap) { p.Zone = 5 }},
		{api.ErrState, func(p *api.Tap) { p.Gate = 2 }},
		{api.ErrState, func(p *api.Tap) { p.Zone = 4 }},
		{api.ErrState, func(p *api.Tap) { p.Time = 1 }},
		{api.ErrState, func(p *api.Tap) { p.Seq = 50 }},
	}
	for _, a := range wrong {
		for _, b := range wrong {
			g := good()
			a.do(&g.Alone[1])
			b.do(&g.Alone[2])
			refuses(t, g, a.errno)
		}
	}
}

func TestF2LetThrough(t *testing.T) {
	atSeq := func(n int) api.Gate { g := good(); g.Alone, g.Seq = nil, n; return g }
	late := good()
	late.Budget.Until = 10099
	lastOne := good()
	lastOne.Budget.Left = 1
	for _, c := range []struct {
		name   string
		gate   api.Gate
		ticket api.Ticket
		time   int
	}{
		{"a Single", good(), single(9), 60},
		{"a Day", good(), day(9), 60},
		{"a Carnet", good(), carnet(9), 60},
		{"at the last one's time", good(), single(9), 50},
		{"at Until", good(), single(9), 200},
		{"at From", atSeq(7), single(9), 10},
		{"at To", late, single(9), 300},
		{"at time 0", atSeq(7), api.Ticket{Id: 9, Kind: api.Day, Zones: 2}, 0},
		{"at the last time of all", late, api.Ticket{Id: 9, Kind: api.Day, To: 9999, Zones: 2}, 9999},
		{"a Day that comes again", good(), day(31), 60},
		{"a Day that comes again at once", good(), day(32), 50},
		{"an id ahead of a denied one", good(), single(59), 60},
		{"an id between denied ones", good(), single(61), 60},
		{"the least id", good(), single(1), 60},
		{"the greatest id", good(), single(9999), 60},
		{"the first of a gate", atSeq(0), single(9), 60},
		{"the last Seq", atSeq(98), single(9), 60},
		{"the last one of a budget", lastOne, single(9), 60},
		{"the twelfth alone", full(11), single(9), 60},
	} {
		p := here(c.ticket.Id, c.gate.Seq+1, c.time)
		want := c.gate
		want.Seq++
		want.Alone = append(slices.Clone(c.gate.Alone), p)
		want.Budget.Left--
		y, q, e := gate.Tap(c.gate, c.ticket, c.time)
		if !same(y, want) || q != p || e != api.OK || gate.Check(y) != api.OK {
			t.Errorf("%s: %+v %+v %d, not %+v", c.name, y, q, e, want)
		}
	}
}

// TestF2EachGate: the tap is of the gate's own number and zone.
func TestF2EachGate(t *testing.T) {
	for id := range 3 {
		for _, zone := range []int{1, 2, 4, 8} {
			for zones := 1; zones <= 15; zones++ {
				g := api.Gate{Id: id, Zone: zone, Budget: api.Budget{Left: 9, Until: 100}}
				y, p, e := gate.Tap(g, api.Ticket{Id: 9, Kind: api.Single, To: 50, Zones: zones}, 20)
				if zones/zone%2 == 0 {
					if !empty(y) || p != (api.Tap{}) || e != api.ErrZone {
						t.Errorf("gate %d of zone %d, zones %d: %+v %+v %d", id, zone, zones, y, p, e)
					}
				} else if want := (api.Tap{Ticket: 9, Gate: id, Seq: 1, Time: 20, Zone: zone}); p != want || e != api.OK || gate.Check(y) != api.OK {
					t.Errorf("gate %d of zone %d, zones %d: %+v %+v %d", id, zone, zones, y, p, e)
				}
			}
		}
	}
}

func TestF2Refused(t *testing.T) {
	late := good()
	late.Budget.Until = 10099
	none := good()
	none.Alone = nil
	spent := good()
	spent.Budget.Left = 0
	last := none
	last.Seq = 99
	for _, c := range []struct {
		name   string
		gate   api.Gate
		ticket api.Ticket
		time   int
		want   api.Errno
	}{
		{"no ticket", good(), api.Ticket{}, 60, api.ErrRange},
		{"a ticket of no kind", good(), api.Ticket{Id: 9, Kind: 4, Zones: 2}, 60, api.ErrKind},
		{"a ticket that ends too early", good(), api.Ticket{Id: 9, Kind: 2, From: 2, To: 1, Zones: 2}, 60, api.ErrState},
		{"a ticket with rides", good(), api.Ticket{Id: 9, Kind: 2, To: 300, Zones: 2, Rides: 2}, 60, api.ErrForm},
		{"a time below 0", none, single(9), -1, api.ErrRange},
		{"a time too great", late, single(9), 10000, api.ErrRange},
		{"the least time", none, single(9), math.MinInt, api.ErrRange},
		{"the greatest time", late, single(9), math.MaxInt, api.ErrRange},
		{"less than the last one's time", good(), single(9), 49, api.ErrState},
		{"less than the first one's time", good(), single(9), 10, api.ErrState},
		{"denied", good(), single(60), 60, api.ErrDenied},
		{"denied, a Day", good(), day(66), 60, api.ErrDenied},
		{"just too early", none, single(9), 9, api.ErrTime},
		{"just too late", late, single(9), 301, api.ErrTime},
		{"just behind Until", good(), single(9), 201, api.ErrTime},
		{"another zone", good(), api.Ticket{Id: 9, Kind: api.Day, To: 300, Zones: 13}, 60, api.ErrZone},
		{"nothing left", spent, single(9), 60, api.ErrSpent},
		{"nothing left, a Day", spent, day(9), 60, api.ErrSpent},
		{"nothing left, a Day again", spent, day(31), 60, api.ErrSpent},
		{"a Single that comes again", good(), single(30), 60, api.ErrSpent},
		{"a Single that comes again at once", good(), single(32), 50, api.ErrSpent},
		{"a Carnet that comes again", good(), carnet(31), 60, api.ErrSpent},
		{"no room", full(12), single(9), 60, api.ErrMany},
		{"no room, a Day again", full(12), day(100), 60, api.ErrMany},
		{"no room, a Single again", full(12), single(100), 60, api.ErrSpent},
		{"no Seq left", last, single(9), 60, api.ErrMany},
	} {
		if y, p, e := gate.Tap(c.gate, c.ticket, c.time); !empty(y) || p != (api.Tap{}) || e != c.want {
			t.Errorf("%s: %+v %+v %d, not %d", c.name, y, p, e, c.want)
		}
	}
}

// TestF2FirstNamed: of several errors of a tap the one that is named first tells.
func TestF2FirstNamed(t *testing.T) {
	tap := func(set int, first api.Errno, a asked) {
		if y, p, e := gate.Tap(a.gate, a.ticket, a.time); !empty(y) || p != (api.Tap{}) || e != first {
			t.Errorf("set %b: %+v %+v %d, not %d", set, y, p, e, first)
		}
	}
	crowd := func(a *asked) {
		g := full(12)
		a.gate.Alone, a.gate.Seq = g.Alone, g.Seq
	}
	behind := func(errno api.Errno, late func(*asked)) []fault {
		return []fault{
			{api.ErrZone, func(a *asked) { a.gate.Zone = 6 }},
			{api.ErrForm, func(a *asked) { a.ticket.Rides = 1 }},
			{errno, late},
			{api.ErrDenied, func(a *asked) { a.gate.Denied.Ids[0] = 9 }},
			{api.ErrTime, func(a *asked) { a.ticket.From = 250 }},
			{api.ErrTime, func(a *asked) { a.gate.Budget.Until = 0 }},
			{api.ErrZone, func(a *asked) { a.ticket.Zones = 13 }},
			{api.ErrSpent, func(a *asked) { a.gate.Budget.Left = 0 }},
		}
	}
	firstNamed(behind(api.ErrRange, func(a *asked) { a.time = -1 }), tap)
	firstNamed(behind(api.ErrRange, func(a *asked) { a.time = 10000 }), tap)
	firstNamed(append(behind(api.ErrState, func(a *asked) { a.time = 49 }), fault{api.ErrMany, crowd}), tap)
}

// TestF2ListHere: the gate's own list tells, up to its limits.
func TestF2ListHere(t *testing.T) {
	g := good()
	g.Denied = api.Denied{Version: 12, Ids: []int{1, 2, 3, 4, 5, 6, 7, 8, 9, 10, 11, 9999}}
	for _, id := range g.Denied.Ids {
		if _, _, e := gate.Tap(g, day(id), 60); e != api.ErrDenied {
			t.Errorf("%d: %d", id, e)
		}
	}
	for _, id := range []int{12, 13, 9998} {
		if _, _, e := gate.Tap(g, day(id), 60); e != api.OK {
			t.Errorf("%d: %d", id, e)
		}
	}
}

func TestF3Sync(t *testing.T) {
	own := good().Denied
	twelve := api.Denied{Version: 999, Ids: []int{1, 2, 3, 4, 5, 6, 7, 8, 9, 10, 11, 9999}}
	fresh := func(g *api.Gate) { g.Alone, g.Budget = nil, api.Budget{Left: 9, Until: 1} }
	for _, c := range []struct {
		name       string
		do         func(*api.Gate)
		list, want api.Denied
		time       int
	}{
		{"a newer list", func(*api.Gate) {}, api.Denied{Version: 6, Ids: []int{7}}, api.Denied{Version: 6, Ids: []int{7}}, 150},
		{"an older list", func(*api.Gate) {}, api.Denied{Version: 4, Ids: []int{7}}, own, 150},
		{"no list", func(*api.Gate) {}, api.Denied{}, own, 150},
		{"another list of the same version", func(*api.Gate) {}, api.Denied{Version: 5, Ids: []int{7}}, own, 150},
		{"a list at its limits", func(*api.Gate) {}, twelve, twelve, 150},
		{"at time 0", func(*api.Gate) {}, twelve, twelve, 0},
		{"ahead of the last one's time", func(*api.Gate) {}, twelve, twelve, 49},
		{"at the last time of all", func(*api.Gate) {}, twelve, twelve, 9999},
		{"none alone", fresh, twelve, twelve, 150},
		{"nothing left", func(g *api.Gate) { g.Budget.Left = 0 }, twelve, twelve, 150},
		{"as many as may be", func(g *api.Gate) { *g = full(12) }, twelve, twelve, 150},
	} {
		g := good()
		c.do(&g)
		want := api.Gate{Id: g.Id, Zone: g.Zone, Seq: g.Seq, Denied: c.want, Budget: api.Budget{Left: 9, Until: c.time + 100}}
		y, l, e := gate.Sync(g, c.list, c.time)
		if !same(y, want) || !slices.Equal(l, g.Alone) || e != api.OK || gate.Check(y) != api.OK {
			t.Errorf("%s: %+v %+v %d, not %+v", c.name, y, l, e, want)
		}
	}
}

// TestF3FirstNamed: of several errors the one that is named first tells.
func TestF3FirstNamed(t *testing.T) {
	for _, time := range []int{-1, 10000, math.MinInt, math.MaxInt} {
		firstNamed([]fault{
			{api.ErrZone, func(a *asked) { a.gate.Zone = 6 }},
			{api.ErrMany, func(a *asked) { a.gate.Denied.Ids = make([]int, 13) }},
			{api.ErrMany, func(a *asked) { a.list.Ids = make([]int, 13) }},
			{api.ErrState, func(a *asked) { a.list = api.Denied{Version: 1, Ids: []int{5, 6}} }},
			{api.ErrRange, func(a *asked) { a.time = time }},
		}, func(set int, first api.Errno, a asked) {
			if set>>2&3 == 3 {
				return // one list can't have both
			}
			if y, l, e := gate.Sync(a.gate, a.list, a.time); !empty(y) || len(l) != 0 || e != first {
				t.Errorf("set %b: %+v %+v %d, not %d", set, y, l, e, first)
			}
		})
	}
}

// room of a gate: its lists with what lies behind them.
func room(g api.Gate) api.Gate {
	g.Alone, g.Denied.Ids = g.Alone[:cap(g.Alone)], g.Denied.Ids[:cap(g.Denied.Ids)]
	return g
}

func copied(g api.Gate) api.Gate {
	g.Alone, g.Denied.Ids = slices.Clone(g.Alone), slices.Clone(g.Denied.Ids)
	return g
}

// scrawl over all that a gate's lists hold, the spare room too.
func scrawl(g api.Gate) {
	scrawlTaps(g.Alone)
	scrawlIds(g.Denied.Ids)
}

func scrawlTaps(l []api.Tap) {
	l = l[:cap(l)]
	for i := range l {
		l[i].Seq = -7
	}
}

func scrawlIds(l []int) {
	l = l[:cap(l)]
	for i := range l {
		l[i] = -7
	}
}

func TestF2NewMemory(t *testing.T) {
	g := good()
	before := copied(room(g))
	y, _, e := gate.Tap(g, single(9), 60)
	if e != api.OK || !same(room(g), before) {
		t.Errorf("Tap changed what it was handed (%d)", e)
	}
	kept := copied(y)
	scrawl(g)
	if !same(y, kept) {
		t.Error("Tap keeps what it was handed")
	}
	g = good()
	y, _, _ = gate.Tap(g, single(9), 60)
	scrawl(y)
	if !same(room(g), before) {
		t.Error("Tap hands out what it was handed")
	}
	if y, _, _ = gate.Tap(g, single(9), 60); !same(y, kept) {
		t.Error("Tap answers something else when its answer was changed")
	}
}

func TestF3NewMemory(t *testing.T) {
	for _, version := range []int{4, 5, 6} {
		g, d := good(), good().Denied
		d.Version = version
		gateBefore, listBefore := copied(room(g)), slices.Clone(d.Ids[:cap(d.Ids)])
		unchanged := func() bool {
			return same(room(g), gateBefore) && slices.Equal(d.Ids[:cap(d.Ids)], listBefore)
		}
		y, l, e := gate.Sync(g, d, 60)
		if e != api.OK || !unchanged() {
			t.Errorf("version %d: Sync changed what it was handed (%d)", version, e)
		}
		kept, told := copied(y), slices.Clone(l)
		scrawl(y)
		scrawlTaps(l)
		if !unchanged() {
			t.Errorf("version %d: Sync hands out what it was handed", version)
		}
		y, l, _ = gate.Sync(g, d, 60)
		scrawl(g)
		scrawlIds(d.Ids)
		if len(l) != 3 || !same(y, kept) || !slices.Equal(l, told) {
			t.Errorf("version %d: Sync keeps what it was handed, or what it answered", version)
		}
		scrawl(y)
		if !slices.Equal(l, told) {
			t.Errorf("version %d: the lists of Sync share memory", version)
		}
	}
}

// TestSameAgain: a call changes nothing that a later one could tell.
func TestSameAgain(t *testing.T) {
	a, p, e := gate.Tap(good(), single(9), 60)
	gate.Tap(good(), single(8), 70)
	gate.Sync(good(), api.Denied{Version: 9, Ids: []int{9}}, 60)
	b, q, f := gate.Tap(good(), single(9), 60)
	if !same(a, b) || p != q || e != f {
		t.Errorf("%+v %+v %d, then %+v %+v %d", a, p, e, b, q, f)
	}
}

// model counts by itself what a gate that is alone lets through.
type model struct {
	id, zone, seq, left, until int
	alone                      []api.Tap
	times                      map[int]int
	denied                     []int
}

// tapped tells what becomes of a ticket that is right, and remembers it.
func (m *model) tapped(x api.Ticket, time int) (api.Tap, api.Errno) {
	switch {
	case len(m.alone) > 0 && time < m.alone[len(m.alone)-1].Time:
		return api.Tap{}, api.ErrState
	case slices.Contains(m.denied, x.Id):
		return api.Tap{}, api.ErrDenied
	case time < x.From || time > x.To || time > m.until:
		return api.Tap{}, api.ErrTime
	case x.Zones/m.zone%2 == 0:
		return api.Tap{}, api.ErrZone
	case m.left == 0 || x.Kind != api.Day && m.times[x.Id] > 0:
		return api.Tap{}, api.ErrSpent
	case len(m.alone) == 12 || m.seq == 99:
		return api.Tap{}, api.ErrMany
	}
	m.seq++
	m.left--
	m.times[x.Id]++
	p := api.Tap{Ticket: x.Id, Gate: m.id, Seq: m.seq, Time: time, Zone: m.zone}
	m.alone = append(m.alone, p)
	return p, api.OK
}

// synced remembers what a gate gets, and tells what it told.
func (m *model) synced(ids []int, time int) []api.Tap {
	told := m.alone
	m.alone, m.times, m.denied = nil, map[int]int{}, slices.Clone(ids)
	m.left, m.until = 9, time+100
	return told
}

// TestF4WithinBudget: whatever comes, a gate stays right, all is as an own count of it says, and between two Syncs it lets through no more than its budget, and no ticket but a Day twice.
func TestF4WithinBudget(t *testing.T) {
	r := rand.New(rand.NewSource(6))
	seen := map[api.Errno]int{}
	for range 400 {
		tickets := some(r)
		g := api.Gate{Id: r.Intn(3), Zone: 1 << r.Intn(4), Seq: r.Intn(100)}
		m := &model{id: g.Id, zone: g.Zone, seq: g.Seq, times: map[int]int{}}
		var list api.Denied
		time := 0
		for range 120 {
			time += r.Intn(12)
			if r.Intn(12) == 0 {
				list = longer(list, 1+r.Intn(12), r)
				g = syncs(t, g, m, list, time)
			}
			x := tickets[r.Intn(len(tickets))]
			at := max(0, time-r.Intn(10))
			p, want := m.tapped(x, at)
			y, q, e := gate.Tap(g, x, at)
			if q != p || e != want {
				t.Fatalf("%+v, %+v at %d: %+v %d, not %+v %d", g, x, at, q, e, p, want)
			}
			seen[e]++
			if e == api.OK {
				g = y
			}
			within(t, g, m, tickets)
		}
	}
	for _, e := range []api.Errno{api.OK, api.ErrState, api.ErrDenied, api.ErrTime, api.ErrZone, api.ErrSpent, api.ErrMany} {
		if seen[e] < 100 {
			t.Errorf("errno %d came %d times only: that tells little", e, seen[e])
		}
	}
}

// some tickets of ids from 1 on.
func some(r *rand.Rand) []api.Ticket {
	var tickets []api.Ticket
	for id := 1; id <= 12; id++ {
		x := api.Ticket{Id: id, Kind: 1 + r.Intn(3), From: r.Intn(200), Zones: 1 + r.Intn(15)}
		x.To = x.From + r.Intn(1000)
		if x.Kind == api.Carnet {
			x.Rides = 2 + r.Intn(8)
		}
		tickets = append(tickets, x)
	}
	return tickets
}

// longer list, now and then.
func longer(list api.Denied, id int, r *rand.Rand) api.Denied {
	if y, e := denied.Add(list, id); e == api.OK && r.Intn(2) == 0 {
		return y
	}
	return list
}

func syncs(t *testing.T, g api.Gate, m *model, list api.Denied, time int) api.Gate {
	t.Helper()
	told := m.synced(list.Ids, time)
	y, l, e := gate.Sync(g, list, time)
	if !slices.Equal(l, told) || e != api.OK {
		t.Fatalf("%+v tells %+v (%d), not %+v", g, l, e, told)
	}
	return y
}

func within(t *testing.T, g api.Gate, m *model, tickets []api.Ticket) {
	t.Helper()
	if e := gate.Check(g); e != api.OK {
		t.Fatalf("%+v: %d", g, e)
	}
	if g.Seq != m.seq || g.Budget.Left != m.left || g.Budget.Until != m.until || !slices.Equal(g.Alone, m.alone) || !slices.Equal(g.Denied.Ids, m.denied) {
		t.Fatalf("%+v, not %+v", g, *m)
	}
	if len(g.Alone) > 9 {
		t.Fatalf("%+v let through more than a budget", g)
	}
	times := map[int]int{}
	for _, p := range g.Alone {
		times[p.Ticket]++
	}
	for _, x := range tickets {
		if x.Kind != api.Day && times[x.Id] > 1 {
			t.Fatalf("%+v let %+v through %d times", g, x, times[x.Id])
		}
	}
}
