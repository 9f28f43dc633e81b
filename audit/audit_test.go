package audit_test

import (
	"math"
	"math/rand"
	"slices"
	"testing"

	"leeboard/api"
	"leeboard/audit"
	"leeboard/ledger"
)

func tap(id, gate, seq, time, zone int) api.Tap {
	return api.Tap{Ticket: id, Gate: gate, Seq: seq, Time: time, Zone: zone}
}

// good is a ledger with each kind of ticket, rides and changes; behind its lists there is spare room, which looks like more of them.
func good() api.Ledger {
	l := api.Ledger{
		Tickets: []api.Ticket{
			{Id: 3, Kind: api.Single, From: 10, To: 500, Zones: 3},
			{Id: 5, Kind: api.Day, From: 0, To: 9999, Zones: 15},
			{Id: 7, Kind: api.Single, From: 0, To: 9999, Zones: 15},
			{Id: 9, Kind: api.Carnet, From: 0, To: 400, Zones: 7, Rides: 3},
			{Id: 11, Kind: api.Day, To: 9999, Zones: 15},
		},
		Taps: []api.Tap{
			tap(3, 0, 1, 20, 1), tap(5, 0, 2, 20, 1), tap(3, 1, 1, 79, 2), tap(9, 2, 1, 80, 4), tap(5, 1, 2, 80, 2), tap(5, 2, 6, 100, 8), tap(9, 2, 7, 140, 4),
			tap(11, 2, 8, 140, 4),
		},
		Verdicts: []int{api.Ride, api.Ride, api.Change, api.Ride, api.Ride, api.Change, api.Ride, api.Ride},
	}
	return api.Ledger{Tickets: l.Tickets[:4], Taps: l.Taps[:7], Verdicts: l.Verdicts[:7]}
}

// busy is a ledger of n rides of one Day.
func busy(n int) api.Ledger {
	l := api.Ledger{Tickets: []api.Ticket{{Id: 10, Kind: api.Day, To: 9999, Zones: 15}}}
	for i := range n {
		l.Taps = append(l.Taps, tap(10, i%3, i/3+1, 60*i, 1))
		l.Verdicts = append(l.Verdicts, api.Ride)
	}
	return l
}

// far are numbers that are no gate, no id and no time.
func far() []int {
	return []int{-1, 10000, 1 << 32, math.MinInt, math.MaxInt}
}

func TestH1Gate(t *testing.T) {
	for _, c := range []struct {
		name   string
		ledger api.Ledger
		want   [3][2]int
	}{
		{"nothing", api.Ledger{}, [3][2]int{}},
		{"no taps", busy(0), [3][2]int{}},
		{"one of each", good(), [3][2]int{{2, 0}, {1, 1}, {2, 1}}},
		{"as much as may be", busy(60), [3][2]int{{20, 0}, {20, 0}, {20, 0}}},
		{"one gate more than the others", busy(4), [3][2]int{{2, 0}, {1, 0}, {1, 0}}},
	} {
		for gate, want := range c.want {
			if rides, changes, e := audit.Gate(c.ledger, gate); rides != want[0] || changes != want[1] || e != api.OK {
				t.Errorf("%s, gate %d: %d %d %d, not %v", c.name, gate, rides, changes, e, want)
			}
		}
		for _, gate := range append(far(), 3) {
			if rides, changes, e := audit.Gate(c.ledger, gate); rides != 0 || changes != 0 || e != api.ErrRange {
				t.Errorf("%s, gate %d: %d %d %d", c.name, gate, rides, changes, e)
			}
		}
	}
}

func TestH1Left(t *testing.T) {
	twice := good()
	twice.Tickets[3].Rides = 2
	most := good()
	most.Tickets[3].Rides = 9
	for _, c := range []struct {
		name     string
		ledger   api.Ledger
		id, want int
	}{
		{"a Single that is spent, and went on", good(), 3, 0},
		{"a Single that nobody has used", good(), 7, 1},
		{"a Day, of which changes don't count", good(), 5, 58},
		{"a Carnet", good(), 9, 1},
		{"a Carnet that is spent", twice, 9, 0},
		{"a Carnet of the most rides", most, 9, 7},
		{"a Day that nobody has used", busy(0), 10, 60},
		{"a Day with one ride", busy(1), 10, 59},
		{"a Day with one left", busy(59), 10, 1},
		{"a Day with as many as may be", busy(60), 10, 0},
	} {
		if n, e := audit.Left(c.ledger, c.id); n != c.want || e != api.OK {
			t.Errorf("%s: %d %d, not %d", c.name, n, e, c.want)
		}
	}
	for _, id := range append(far(), 0, 1, 2, 4, 8, 10, 11, 9999) {
		if n, e := audit.Left(good(), id); n != 0 || e != api.ErrNone {
			t.Errorf("%d: %d %d", id, n, e)
		}
		if n, e := audit.Left(api.Ledger{}, id); n != 0 || e != api.ErrNone {
			t.Errorf("%d of nothing: %d %d", id, n, e)
		}
	}
}

func TestH1Between(t *testing.T) {
	for _, c := range []struct {
		from, to, want int
	}{
		{0, 9999, 7}, {0, 0, 0}, {0, 19, 0}, {0, 20, 2}, {20, 20, 2}, {21, 78, 0}, {21, 79, 1}, {20, 79, 3}, {79, 79, 1},
		{79, 80, 3}, {80, 80, 2}, {81, 99, 0}, {81, 100, 1}, {80, 139, 3}, {80, 140, 4}, {140, 9999, 1}, {141, 9999, 0}, {9999, 9999, 0},
	} {
		if n, e := audit.Between(good(), c.from, c.to); n != c.want || e != api.OK {
			t.Errorf("%d to %d: %d %d, not %d", c.from, c.to, n, e, c.want)
		}
		if n, e := audit.Between(api.Ledger{}, c.from, c.to); n != 0 || e != api.OK {
			t.Errorf("%d to %d of nothing: %d %d", c.from, c.to, n, e)
		}
	}
	if n, e := audit.Between(busy(60), 0, 60*59); n != 60 || e != api.OK {
		t.Errorf("as much as may be: %d %d", n, e)
	}
	ends := api.Ledger{Tickets: busy(0).Tickets, Taps: []api.Tap{tap(10, 0, 1, 0, 1), tap(10, 1, 1, 9999, 1)}, Verdicts: []int{api.Ride, api.Ride}}
	for times, want := range map[[2]int]int{{0, 9999}: 2, {0, 0}: 1, {9999, 9999}: 1, {1, 9998}: 0} {
		if n, e := audit.Between(ends, times[0], times[1]); n != want || e != api.OK {
			t.Errorf("%v: %d %d, not %d", times, n, e, want)
		}
	}
}

// TestH1BetweenWrong: a time that is none tells ahead of times that are the wrong way round.
func TestH1BetweenWrong(t *testing.T) {
	says := func(from, to int, want api.Errno) {
		t.Helper()
		if n, e := audit.Between(good(), from, to); n != 0 || e != want {
			t.Errorf("%d to %d: %d %d, not %d", from, to, n, e, want)
		}
	}
	for _, none := range far() {
		for _, time := range append(far(), 0, 50, 9999) {
			says(none, time, api.ErrRange)
			says(time, none, api.ErrRange)
		}
	}
	for _, times := range [][2]int{{1, 0}, {80, 79}, {9999, 0}, {9999, 9998}, {500, 20}} {
		says(times[0], times[1], api.ErrState)
	}
}

// TestH1WrongLedger: what is wrong of the ledger tells ahead of all else.
func TestH1WrongLedger(t *testing.T) {
	for _, c := range []struct {
		name string
		want api.Errno
		do   func(*api.Ledger)
	}{
		{"too many taps", api.ErrMany, func(l *api.Ledger) { *l = busy(61) }},
		{"a verdict less", api.ErrMany, func(l *api.Ledger) { l.Verdicts = l.Verdicts[:6] }},
		{"a verdict more", api.ErrMany, func(l *api.Ledger) { l.Verdicts = append(l.Verdicts, api.Ride) }},
		{"a wrong ticket", api.ErrForm, func(l *api.Ledger) { l.Tickets[0].Rides = 1 }},
		{"ids that fall", api.ErrState, func(l *api.Ledger) { l.Tickets[3].Id = 4 }},
		{"a wrong gate", api.ErrRange, func(l *api.Ledger) { l.Taps[0].Gate = 3 }},
		{"a tap of two zones", api.ErrZone, func(l *api.Ledger) { l.Taps[0].Zone = 3 }},
		{"a tap of no ticket", api.ErrNone, func(l *api.Ledger) { l.Taps[6].Ticket = 4 }},
		{"a number twice", api.ErrTwice, func(l *api.Ledger) { l.Taps[6].Seq = 1 }},
		{"a verdict Refused", api.ErrKind, func(l *api.Ledger) { l.Verdicts[4] = api.Refused }},
		{"a verdict far away", api.ErrKind, func(l *api.Ledger) { l.Verdicts[4] = math.MaxInt }},
		{"a verdict below 0", api.ErrKind, func(l *api.Ledger) { l.Verdicts[4] = -1 }},
		{"a Change that is a Ride", api.ErrState, func(l *api.Ledger) { l.Verdicts[0] = api.Change }},
		{"a ride more than there is", api.ErrState, func(l *api.Ledger) { l.Tickets[3] = api.Ticket{Id: 9, Kind: api.Single, To: 400, Zones: 7} }},
	} {
		l := good()
		c.do(&l)
		for _, n := range append(far(), 0, 1, 3, 10) {
			if rides, changes, e := audit.Gate(l, n); rides != 0 || changes != 0 || e != c.want {
				t.Errorf("%s, gate %d: %d %d %d, not %d", c.name, n, rides, changes, e, c.want)
			}
			if left, e := audit.Left(l, n); left != 0 || e != c.want {
				t.Errorf("%s, id %d: %d %d, not %d", c.name, n, left, e, c.want)
			}
			if taps, e := audit.Between(l, n, 5); taps != 0 || e != c.want {
				t.Errorf("%s, %d to 5: %d %d, not %d", c.name, n, taps, e, c.want)
			}
		}
	}
}

// random ledger.
func random(r *rand.Rand) api.Ledger {
	var l api.Ledger
	for range 1 + r.Intn(6) {
		x := api.Ticket{Id: 1 + r.Intn(40), Kind: 1 + r.Intn(3), To: 5000, Zones: 15}
		if x.Kind == api.Carnet {
			x.Rides = 2 + r.Intn(8)
		}
		if y, e := ledger.Sell(l, x); e == api.OK {
			l = y
		}
	}
	time := 0
	for range r.Intn(80) {
		time += r.Intn(40)
		p := tap(l.Tickets[r.Intn(len(l.Tickets))].Id, r.Intn(3), 1+r.Intn(99), time, 1<<r.Intn(4))
		if y, _, e := ledger.Enter(l, p); e == api.OK {
			l = y
		}
	}
	return l
}

// number of the taps of a ledger that are meant.
func number(l api.Ledger, meant func(p api.Tap, verdict int) bool) int {
	n := 0
	for i, p := range l.Taps {
		if meant(p, l.Verdicts[i]) {
			n++
		}
	}
	return n
}

// TestH2Together: all gates have what there was, so do times that share nothing, and no ticket has less than none left.
func TestH2Together(t *testing.T) {
	r := rand.New(rand.NewSource(8))
	none, changed := 0, 0
	for range 300 {
		l := random(r)
		rides, changes := 0, 0
		for gate := range 3 {
			a, b, e := audit.Gate(l, gate)
			here := number(l, func(p api.Tap, v int) bool { return p.Gate == gate && v == api.Ride })
			if a != here || e != api.OK {
				t.Fatalf("%+v, gate %d: %d %d, not %d", l, gate, a, e, here)
			}
			rides, changes = rides+a, changes+b
		}
		changed += changes
		if all := number(l, func(_ api.Tap, v int) bool { return v == api.Ride }); rides != all || changes != len(l.Taps)-all {
			t.Fatalf("%+v: %d %d", l, rides, changes)
		}
		for _, x := range l.Tickets {
			had := map[int]int{api.Single: 1, api.Day: 60, api.Carnet: x.Rides}[x.Kind]
			want := had - number(l, func(p api.Tap, v int) bool { return p.Ticket == x.Id && v == api.Ride })
			if n, e := audit.Left(l, x.Id); n != want || n < 0 || e != api.OK {
				t.Fatalf("%+v, %d: %d %d, not %d", l, x.Id, n, e, want)
			}
			if want == 0 {
				none++
			}
		}
		cut := r.Intn(3000)
		early, e := audit.Between(l, 0, cut)
		late, f := audit.Between(l, cut+1, 9999)
		if want := number(l, func(p api.Tap, _ int) bool { return p.Time <= cut }); early != want || early+late != len(l.Taps) || e != api.OK || f != api.OK {
			t.Fatalf("%+v, cut at %d: %d %d, %d %d", l, cut, early, e, late, f)
		}
	}
	if none < 100 || changed < 100 {
		t.Errorf("%d and %d: that tells little", none, changed)
	}
}

// TestP2OnlyRead: a ledger is only read, the spare room behind its lists too, and what was asked of one is not seen by who asks of another one.
func TestP2OnlyRead(t *testing.T) {
	l := good()
	whole := func() api.Ledger {
		return api.Ledger{Tickets: l.Tickets[:cap(l.Tickets)], Taps: l.Taps[:cap(l.Taps)], Verdicts: l.Verdicts[:cap(l.Verdicts)]}
	}
	before := api.Ledger{Tickets: slices.Clone(whole().Tickets), Taps: slices.Clone(whole().Taps), Verdicts: slices.Clone(whole().Verdicts)}
	ask := func(l api.Ledger) [4]int {
		rides, changes, _ := audit.Gate(l, 2)
		left, _ := audit.Left(l, 9)
		taps, _ := audit.Between(l, 20, 100)
		return [4]int{rides, changes, left, taps}
	}
	first := ask(l)
	if now := whole(); !slices.Equal(now.Tickets, before.Tickets) || !slices.Equal(now.Taps, before.Taps) || !slices.Equal(now.Verdicts, before.Verdicts) {
		t.Error("the ledger was changed")
	}
	ask(busy(60))
	clear(l.Taps)
	if want := [4]int{2, 1, 1, 6}; first != want || ask(good()) != want {
		t.Errorf("%v, then %v, not %v", first, ask(good()), want)
	}
}
