package desk_test

import (
	"maps"
	"math/rand"
	"slices"
	"testing"

	"leeboard/api"
	"leeboard/audit"
	"leeboard/code"
	"leeboard/denied"
	"leeboard/desk"
	"leeboard/lead"
	"leeboard/station"
	"leeboard/ticket"
)

// some ticket that may be sold.
func some(r *rand.Rand) api.Ticket {
	x := api.Ticket{Id: 1 + r.Intn(14), Kind: 1 + r.Intn(3), From: r.Intn(60), Zones: 15}
	if r.Intn(3) == 0 {
		x.Zones = 1 + r.Intn(15)
	}
	x.To = x.From + 100 + r.Intn(1500)
	if x.Kind == api.Carnet {
		x.Rides = 2 + r.Intn(3)
	}
	return x
}

// drawn: some act at a time, most of them right ones.
func drawn(r *rand.Rand, time int) api.Act {
	a := api.Act{}
	switch r.Intn(16) {
	case 0:
		a = sell(some(r))
	case 1, 2, 3:
		a = sync(r.Intn(3), time)
	case 4:
		a = up(r.Intn(3))
	case 5:
		a = down(r.Intn(3))
	case 6, 7:
		a = wants(r.Intn(2))
	case 8:
		if r.Intn(4) == 0 {
			a = deny(1 + r.Intn(14))
		}
	default:
		a = ride(1+r.Intn(14), r.Intn(3), time)
	}
	if r.Intn(20) == 0 { // something that may be wrong
		names := slices.Sorted(maps.Keys(parts))
		parts[names[r.Intn(len(names))]](&a, []int{-1, 0, 1, 2, 3, 9, 10000}[r.Intn(7)])
	}
	return a
}

// start of a play: a new station that has sold some tickets, now and then near a limit.
func start(r *rand.Rand) api.Station {
	s := station.New()
	days := r.Intn(2) == 0 // of which a ledger gets full
	for id := range 1 + r.Intn(12) {
		x := some(r)
		x.Id = 1 + id
		if days && id < 9 {
			x = day(1 + id)
		}
		s.Ledger.Tickets = append(s.Ledger.Tickets, x)
	}
	for i := range s.Gates {
		s.Gates[i].Zone = 1 << r.Intn(4)
		s.Gates[i].Budget.Until = r.Intn(1000)
		if r.Intn(5) == 0 {
			s.Gates[i].Seq = 60 + r.Intn(40)
		}
	}
	switch r.Intn(5) {
	case 0:
		s.Denied.Version = 995 + r.Intn(5)
	case 1:
		s.Denied = api.Denied{Version: 20, Ids: []int{51, 52, 53, 54, 55, 56, 57, 58, 59, 60, 61}[:9+r.Intn(3)]}
	}
	if r.Intn(5) == 0 {
		s.Views = views(view(96+r.Intn(4), 0), gone(2, 1), view(2, 1))
	}
	return s
}

// step of a play: an act, the stations ahead of it and behind it, and what it answered. With an error there is no station behind it, and the play goes on from the one ahead.
type step struct {
	ahead, behind api.Station
	act           api.Act
	n             int
	errno         api.Errno
}

// plays: what look sees of each step of many plays; a play begins where first is true.
func plays(seed int64, many int, look func(first bool, x step)) {
	r := rand.New(rand.NewSource(seed))
	for range many {
		s := start(r)
		pace := 2 + r.Intn(16)
		first := true
		for time := 0; time < 100*pace; time += r.Intn(pace) {
			x := step{ahead: s, act: drawn(r, max(0, time-r.Intn(20)*r.Intn(2)))}
			x.behind, x.n, x.errno = desk.Do(x.ahead, x.act)
			look(first, x)
			first = false
			if x.errno == api.OK {
				s = x.behind
			}
		}
	}
}

// strange: something is there that the act's kind does not name.
func strange(a api.Act) bool {
	switch a.Kind {
	case api.ActSell:
		return a.Id != 0 || a.Of != 0 || a.Time != 0
	case api.ActTap:
		return a.Ticket != api.Ticket{}
	case api.ActDeny:
		return a.Of != 0 || a.Time != 0 || a.Ticket != api.Ticket{}
	case api.ActSync:
		return a.Id != 0 || a.Ticket != api.Ticket{}
	}
	return a.Id != 0 || a.Time != 0 || a.Ticket != api.Ticket{}
}

// asCalled: what the chapters' calls make of an act with a station that is right.
func asCalled(s api.Station, a api.Act) (api.Station, int, api.Errno) {
	if a.Kind < 1 || a.Kind > 7 {
		return api.Station{}, 0, api.ErrKind
	}
	if strange(a) {
		return api.Station{}, 0, api.ErrForm
	}
	n, e := 0, api.OK
	switch a.Kind {
	case api.ActSell:
		s, e = station.Sell(s, a.Ticket)
	case api.ActTap:
		return station.Tap(s, a.Id, a.Of, a.Time)
	case api.ActSync:
		var told []api.Tap
		s, told, e = station.Sync(s, a.Of, a.Time)
		n = len(told)
	case api.ActDeny:
		if _, led, _ := lead.Now(s.Views); !led {
			return api.Station{}, 0, api.ErrState
		}
		s.Denied, e = denied.Add(s.Denied, a.Id)
	case api.ActUp, api.ActDown:
		s.Views, e = lead.Set(s.Views, a.Of, a.Kind == api.ActUp)
	case api.ActLead:
		won := false
		s.Views, won, e = lead.Win(s.Views, a.Of)
		n = map[bool]int{true: 1}[won]
	}
	if e != api.OK {
		return api.Station{}, 0, e
	}
	return s, n, e
}

// judged by an own count: of taps, in that order, which ones are let through, as what, and which are not.
func judged(tickets []api.Ticket, taps []api.Tap) (in []api.Tap, verdicts []int, out []api.Tap) {
	last, left := map[int]int{}, map[int]int{}
	sold := map[int]api.Ticket{}
	for _, x := range tickets {
		sold[x.Id], left[x.Id], last[x.Id] = x, rides(x), -1000
	}
	for _, p := range taps {
		x := sold[p.Ticket]
		good := x.Id != 0 && x.From <= p.Time && p.Time <= x.To && x.Zones/p.Zone%2 == 1
		switch {
		case good && p.Time-last[x.Id] < 60:
			in, verdicts = append(in, p), append(verdicts, api.Change)
		case good && left[x.Id] > 0:
			in, verdicts = append(in, p), append(verdicts, api.Ride)
			last[x.Id] = p.Time
			left[x.Id]--
		default:
			out = append(out, p)
		}
	}
	return in, verdicts, out
}

// rides that a ticket has, a Day as many as there may be taps.
func rides(x api.Ticket) int {
	return map[int]int{api.Single: 1, api.Day: api.MaxTaps, api.Carnet: x.Rides}[x.Kind]
}

// number of a tap, that no other one has.
func number(p api.Tap) [2]int { return [2]int{p.Gate, p.Seq} }

// wrong: what an own look at a station finds; none, if it is right.
func wrong(s api.Station) string {
	in, verdicts, out := judged(s.Ledger.Tickets, s.Ledger.Taps)
	if !same(in, s.Ledger.Taps) || !same(verdicts, s.Ledger.Verdicts) || len(out) > 0 || len(in) > 60 {
		return "the ledger"
	}
	if !slices.IsSortedFunc(s.Ledger.Taps, func(p, q api.Tap) int { return p.Time - q.Time }) {
		return "times"
	}
	if d := s.Denied; !slices.IsSorted(d.Ids) || len(d.Ids) > 12 || len(d.Ids) > d.Version || d.Version > 999 {
		return "the list"
	}
	numbers := map[[2]int]int{}
	taps := slices.Clone(s.Ledger.Taps)
	for i, g := range s.Gates {
		if g.Id != i || g.Denied.Version > s.Denied.Version || len(g.Alone) > 9 || len(g.Alone)+g.Budget.Left > 9 || g.Budget.Left < 0 {
			return "a gate"
		}
		taps = append(taps, g.Alone...)
	}
	for _, p := range taps {
		numbers[number(p)]++
		if numbers[number(p)] > 1 || p.Seq > s.Gates[p.Gate].Seq {
			return "numbers"
		}
	}
	if len(s.Gates) != 3 || len(s.Views) != 3 {
		return "how many there are"
	}
	for _, v := range s.Views {
		for _, w := range s.Views {
			if v.Epoch == w.Epoch && v.Leader != w.Leader || v.Epoch > 99 {
				return "views"
			}
		}
	}
	return ""
}

// TestK2Right: whoever leads, and whatever is down, each act answers what the chapters' calls do, and the station is right.
func TestK2Right(t *testing.T) {
	seen := map[[2]int]int{}
	plays(11, 300, func(_ bool, x step) {
		y, n, e := asCalled(x.ahead, x.act)
		if x.errno != e || x.n != n || !same(x.behind, y) {
			t.Fatalf("%+v of %+v: %+v %d %d, not %+v %d %d", x.act, x.ahead, x.behind, x.n, x.errno, y, n, e)
		}
		seen[[2]int{x.act.Kind, int(e)}]++
		if e != api.OK {
			return
		}
		if w := wrong(x.behind); w != "" || station.Check(x.behind) != api.OK {
			t.Fatalf("%+v of %+v: %+v is not right: %s", x.act, x.ahead, x.behind, w)
		}
	})
	for kind, errnos := range map[int][]api.Errno{
		api.ActSell: {api.OK, api.ErrForm, api.ErrMany, api.ErrState, api.ErrTwice},
		api.ActTap:  {api.OK, api.ErrForm, api.ErrMany, api.ErrRange, api.ErrState, api.ErrNone, api.ErrTime, api.ErrZone, api.ErrSpent, api.ErrDenied},
		api.ActDeny: {api.OK, api.ErrForm, api.ErrMany, api.ErrState, api.ErrTwice},
		api.ActSync: {api.OK, api.ErrForm, api.ErrMany, api.ErrRange, api.ErrState},
		api.ActUp:   {api.OK, api.ErrForm, api.ErrRange},
		api.ActDown: {api.OK, api.ErrForm, api.ErrRange},
		api.ActLead: {api.OK, api.ErrForm, api.ErrMany, api.ErrRange},
		0:           {api.ErrKind},
	} {
		for _, e := range errnos {
			if n := seen[[2]int{kind, int(e)}]; n < 5 {
				t.Errorf("act %d came with %d %d times only: that tells little", kind, e, n)
			}
		}
	}
}

// TestK2Scripts: of whatever script, what Run answers is what its acts answer one by one, and the station is right.
func TestK2Scripts(t *testing.T) {
	r := rand.New(rand.NewSource(12))
	for range 300 {
		l := make([]api.Act, r.Intn(41))
		s, errnos := station.New(), []api.Errno(nil)
		for i := range l {
			l[i] = drawn(r, 5*i)
			if r.Intn(4) == 0 {
				l[i] = sell(some(r))
			}
			y, _, e := desk.Do(s, l[i])
			if e == api.OK {
				s = y
			}
			errnos = append(errnos, e)
		}
		y, done, e := desk.Run(l)
		if !same(y, s) || !slices.Equal(done, errnos) || e != api.OK || wrong(y) != "" {
			t.Fatalf("%+v: %+v %v %d, not %+v %v", l, y, done, e, s, errnos)
		}
	}
}

// TestWholeCodes: what is encoded is decoded as it was, and nothing else is; a code with one sign that is another one is none.
func TestWholeCodes(t *testing.T) {
	const signs = "0123456789ABCDEFGHJKLMNPQRSTUVW"
	r := rand.New(rand.NewSource(13))
	s, _, _ := desk.Run(acts(wants(0)))
	for range 300 {
		x := some(r)
		x.Id = 1 + r.Intn(9999)
		y, _, e := desk.Do(s, sell(x))
		if e != api.OK {
			t.Fatal(e)
		}
		sold := y.Ledger.Tickets[0]
		bytes, e := ticket.Encode(sold)
		if back, f := ticket.Decode(bytes); back != x || e != api.OK || f != api.OK {
			t.Errorf("%+v comes back as %+v", x, back)
		}
		for i := range bytes {
			other := bytes[:i] + string([]byte{bytes[i] ^ byte(1+r.Intn(255))}) + bytes[i+1:]
			if back, e := ticket.Decode(other); e == api.OK {
				if again, _ := ticket.Encode(back); again != other || back == x {
					t.Errorf("%q is decoded as %+v", other, back)
				}
			}
		}
		text, _ := code.Print(sold)
		if back, e := code.Parse(text); back != x || e != api.OK {
			t.Errorf("%s is %+v", text, back)
		}
		for i := range text {
			for _, c := range signs {
				other := text[:i] + string(c) + text[i+1:]
				if _, e := code.Parse(other); other != text && e != api.ErrForm {
					t.Errorf("%s is a code beside %s", other, text)
				}
			}
		}
	}
}

// TestWholeRides: a ticket never gives more rides than it has, in the ledger and by the audit.
func TestWholeRides(t *testing.T) {
	spent := 0
	plays(14, 150, func(_ bool, x step) {
		if x.errno == api.ErrSpent {
			spent++
		}
		if x.errno != api.OK {
			return
		}
		given := map[int]int{}
		for i, p := range x.behind.Ledger.Taps {
			if x.behind.Ledger.Verdicts[i] == api.Ride {
				given[p.Ticket]++
			}
		}
		for _, y := range x.behind.Ledger.Tickets {
			left, e := audit.Left(x.behind.Ledger, y.Id)
			if given[y.Id] > rides(y) || left != rides(y)-given[y.Id] || e != api.OK {
				t.Fatalf("%+v has given %d, and has %d left", y, given[y.Id], left)
			}
		}
	})
	if spent < 50 {
		t.Errorf("%d were spent: that tells little", spent)
	}
}

// TestWholeDenied: what is denied stays so, of the station and of each gate, and nobody rides by it where somebody leads.
func TestWholeDenied(t *testing.T) {
	among := func(a, b api.Denied) bool {
		for _, id := range a.Ids {
			if is, _ := denied.Has(b, id); !is {
				return false
			}
		}
		return a.Version <= b.Version
	}
	refused := 0
	plays(15, 150, func(_ bool, x step) {
		if a := x.act; a.Kind == api.ActTap && (x.n == api.Ride || x.n == api.Change) && slices.Contains(x.ahead.Denied.Ids, a.Id) {
			t.Fatalf("%+v of %+v: %d", a, x.ahead, x.n)
		}
		if x.errno == api.ErrDenied {
			refused++
		}
		if x.errno != api.OK {
			return
		}
		if !among(x.ahead.Denied, x.behind.Denied) {
			t.Fatalf("%+v of %+v: %+v", x.act, x.ahead, x.behind)
		}
		for i := range x.behind.Gates {
			was, is := x.ahead.Gates[i].Denied, x.behind.Gates[i].Denied
			newer, e := denied.Newer(is, x.behind.Denied)
			if !among(was, is) || !among(is, newer) || !among(x.behind.Denied, newer) || e != api.OK {
				t.Fatalf("%+v of %+v: %+v", x.act, x.ahead, x.behind)
			}
		}
	})
	if refused < 50 {
		t.Errorf("%d were refused: that tells little", refused)
	}
}

// TestWholeBudget: alone a gate lets through no more than its budget, till it tells, and nothing behind it.
func TestWholeBudget(t *testing.T) {
	let := map[int]int{}
	until := map[int]int{}
	full := 0
	plays(16, 300, func(first bool, x step) {
		if first {
			for i, g := range x.ahead.Gates {
				let[i], until[i] = 0, g.Budget.Until
			}
		}
		a := x.act
		switch {
		case x.errno == api.OK && a.Kind == api.ActTap && x.n == 0:
			let[a.Of]++
			if let[a.Of] > 9 || a.Time > until[a.Of] {
				t.Fatalf("%+v of %+v is the %dth", a, x.ahead, let[a.Of])
			}
			if let[a.Of] == 9 {
				full++
			}
		case x.errno == api.OK && a.Kind == api.ActSync:
			let[a.Of], until[a.Of] = 0, a.Time+100
		}
	})
	if full < 10 {
		t.Errorf("%d budgets were used up: that tells little", full)
	}
}

// orders in which three gates may tell.
func orders() [][3]int {
	return [][3]int{{0, 1, 2}, {0, 2, 1}, {1, 0, 2}, {1, 2, 0}, {2, 0, 1}, {2, 1, 0}}
}

// spell: a station that somebody leads, behind a while in which nobody did, and in which tickets of few rides were tapped at all gates.
func spell(r *rand.Rand) api.Station {
	s := station.New()
	do := func(a api.Act) {
		if y, _, e := desk.Do(s, a); e == api.OK {
			s = y
		}
	}
	do(wants(1))
	for id := 1; id <= 8; id++ {
		x := some(r)
		x.Id = id
		if x.Kind == api.Day && r.Intn(3) > 0 {
			x.Kind = api.Single
		}
		do(sell(x))
	}
	for time := range 10 {
		do(ride(1+r.Intn(9), r.Intn(3), 4*time))
	}
	for n := range 3 {
		do(sync(n, 60))
	}
	do(down(1))
	for time := r.Intn(60); time < 160; time += r.Intn(8) {
		do(ride(1+r.Intn(9), r.Intn(3), time))
	}
	do(wants(0))
	return s
}

// letThrough: all taps that were, in the ledger or not yet, as they rise.
func letThrough(s api.Station) []api.Tap {
	taps := slices.Clone(s.Ledger.Taps)
	for _, g := range s.Gates {
		taps = append(taps, g.Alone...)
	}
	key := func(p api.Tap) int { return 1000*p.Time + 100*p.Gate + p.Seq }
	slices.SortFunc(taps, func(p, q api.Tap) int { return key(p) - key(q) })
	return taps
}

// TestWholeOrder: the order in which gates tell does not matter, for the ledger or for what is denied, and no tap is lost: each is in the ledger, or told.
func TestWholeOrder(t *testing.T) {
	r := rand.New(rand.NewSource(17))
	many, out := 0, 0
	for range 200 {
		s := spell(r)
		taps := letThrough(s)
		in, verdicts, left := judged(s.Ledger.Tickets, taps)
		want := api.Ledger{Tickets: s.Ledger.Tickets, Taps: in, Verdicts: verdicts}
		var ids []int
		for _, p := range left {
			ids = append(ids, p.Ticket)
		}
		slices.Sort(ids)
		ids = slices.Compact(ids)
		many, out = many+len(taps), out+len(left)
		for _, order := range orders() {
			y, told := s, 0
			for _, n := range order {
				z, more, e := desk.Do(y, sync(n, 160))
				if e != api.OK {
					t.Fatal(e)
				}
				y, told = z, told+more
			}
			if !same(y.Ledger, want) || told != len(left) || !same(y.Denied.Ids, ids) {
				t.Fatalf("%+v, %v: %+v %d, not %+v %d", s, order, y, told, want, len(left))
			}
		}
	}
	if many < 2000 || out < 200 {
		t.Errorf("%d were let through, %d of them too much: that tells little", many, out)
	}
}

// TestWholeLead: there are never two that lead, at a time or of an epoch, and nobody leads again by an epoch that another one has outdone.
func TestWholeLead(t *testing.T) {
	var leaders map[int]int // of each epoch of a play
	last, changes := 0, 0
	plays(18, 200, func(first bool, x step) {
		if first {
			leaders, last = map[int]int{}, 0
		}
		if x.errno != api.OK {
			return
		}
		var now []int
		for who := range 2 {
			for epoch := 1; epoch <= 99; epoch++ {
				backs := 0
				for _, v := range x.behind.Views {
					if v.Up && v.Epoch == epoch && v.Leader == who {
						backs++
					}
				}
				if backs < 2 || !x.behind.Views[who].Up || slices.ContainsFunc(x.behind.Views, func(v api.View) bool { return v.Epoch > epoch }) {
					continue
				}
				if other, is := leaders[epoch]; is && other != who || epoch < last {
					t.Fatalf("%+v: %d leads by %d", x.behind.Views, who, epoch)
				}
				if other, is := leaders[last]; is && other != who {
					changes++
				}
				leaders[epoch], last = who, epoch
				now = append(now, who)
			}
		}
		who, is, e := lead.Now(x.behind.Views)
		if len(now) > 1 || e != api.OK || is != (len(now) == 1) || is && now[0] != who {
			t.Fatalf("%+v: %v lead, not %d %v", x.behind.Views, now, who, is)
		}
	})
	if changes < 100 {
		t.Errorf("another one led %d times: that tells little", changes)
	}
}

// TestWholeFound: what was too much is found when gates tell, and denied from then on, by each gate that has heard of it, whether somebody leads or not.
func TestWholeFound(t *testing.T) {
	r := rand.New(rand.NewSource(19))
	found := 0
	for range 200 {
		s := spell(r)
		_, _, out := judged(s.Ledger.Tickets, letThrough(s))
		found += len(out)
		for n := range 6 { // each gate tells, the last one of them with the whole list; then each gets that
			y, _, e := desk.Do(s, sync(n%3, 160))
			if e != api.OK {
				t.Fatal(e)
			}
			s = y
			nobody, _, _ := desk.Do(s, down(0))
			for _, p := range out {
				if n >= 2 {
					refuses(t, s, ride(p.Ticket, r.Intn(3), 170), 0, api.ErrDenied)
					refuses(t, nobody, ride(p.Ticket, n%3, 170), 0, api.ErrDenied)
				}
			}
		}
		for _, id := range s.Denied.Ids {
			if !slices.ContainsFunc(out, func(p api.Tap) bool { return p.Ticket == id }) {
				t.Errorf("%d is denied, and was not too much: %v", id, out)
			}
		}
	}
	if found < 200 {
		t.Errorf("%d were found: that tells little", found)
	}
}
