package report_test

import (
	"fmt"
	"math"
	"math/rand"
	"slices"
	"strings"
	"testing"

	"leeboard/api"
	"leeboard/code"
	"leeboard/desk"
	"leeboard/lead"
	"leeboard/report"
	"leeboard/station"
)

func tap(id, gate, seq, time, zone int) api.Tap {
	return api.Tap{Ticket: id, Gate: gate, Seq: seq, Time: time, Zone: zone}
}

func day(id int) api.Ticket {
	return api.Ticket{Id: id, Kind: api.Day, To: 9999, Zones: 15}
}

// roomy: a list with spare room behind it.
func roomy[T any](l ...T) []T {
	return append(make([]T, 0, 90), l...)
}

// good is a station that server 1 leads; of its tickets one has no taps, two are denied; a gate has some Alone, and behind its lists there is spare room.
func good() api.Station {
	return api.Station{
		Ledger: api.Ledger{
			Tickets: roomy(
				api.Ticket{Id: 1, Kind: api.Single, From: 10, To: 500, Zones: 15},
				api.Ticket{Id: 2, Kind: api.Day, To: 9999, Zones: 7},
				api.Ticket{Id: 3, Kind: api.Carnet, To: 9999, Zones: 15, Rides: 2},
				api.Ticket{Id: 258, Kind: api.Day, From: 10, To: 500, Zones: 15}),
			Taps: roomy(
				tap(3, 2, 1, 0, 4), tap(1, 0, 1, 20, 1), tap(2, 0, 2, 20, 1), tap(1, 1, 1, 79, 2),
				tap(3, 1, 3, 100, 2), tap(3, 0, 4, 100, 1), tap(2, 1, 2, 9999, 2)),
			Verdicts: roomy(api.Ride, api.Ride, api.Ride, api.Change, api.Ride, api.Change, api.Ride),
		},
		Denied: api.Denied{Version: 5, Ids: roomy(2, 77, 258)},
		Gates: roomy(
			api.Gate{Id: 0, Zone: 1, Seq: 4, Denied: api.Denied{Version: 2, Ids: roomy(1)}, Budget: api.Budget{Left: 9, Until: 200}},
			api.Gate{Id: 1, Zone: 2, Seq: 4, Budget: api.Budget{Left: 7, Until: 200}, Alone: roomy(tap(258, 1, 4, 90, 2))},
			api.Gate{Id: 2, Zone: 4, Seq: 1, Budget: api.Budget{Left: 9, Until: 200}}),
		Views: roomy(api.View{Epoch: 1}, api.View{Epoch: 2, Leader: 1, Up: true}, api.View{Epoch: 2, Leader: 1, Up: true}),
	}
}

// with: what good is when something was done with it.
func with(do ...func(*api.Station)) api.Station {
	s := good()
	for _, d := range do {
		d(&s)
	}
	return s
}

// lines of good, ticket by ticket.
const (
	first  = "000AL2A0HU55RP 1/0 r0@20 c1@79"
	second = "000M91GUAGE4MU 2/58 r0@20 r1@9999"
	third  = "0010V29FHG0T6V 2/0 r2@0 r1@100 c0@100"
	fourth = "02SJLBT3DL7F8E 0/60"
)

func says(t *testing.T, l api.Ledger, id int, want string) {
	t.Helper()
	if got, e := report.Line(l, id); got != want || e != api.OK {
		t.Errorf("%d: %q %d, not %q", id, got, e, want)
	}
}

func tells(t *testing.T, name string, s api.Station, want string) {
	t.Helper()
	if got, e := report.Text(s); got != want || e != api.OK {
		t.Errorf("%s: %q %d, not %q", name, got, e, want)
	}
}

func TestL1Line(t *testing.T) {
	for id, want := range map[int]string{1: first, 2: second, 3: third, 258: fourth} {
		says(t, good().Ledger, id, want)
	}
	for _, c := range []struct {
		ticket api.Ticket
		want   string
	}{
		{day(1), "/60"},
		{day(9999), "/60"},
		{api.Ticket{Id: 4, Kind: api.Single, Zones: 1}, "/1"},
		{api.Ticket{Id: 4, Kind: api.Carnet, Zones: 1, Rides: 2}, "/2"},
		{api.Ticket{Id: 4, Kind: api.Carnet, Zones: 1, Rides: 9}, "/9"},
	} {
		signs, _ := code.Print(c.ticket)
		says(t, api.Ledger{Tickets: []api.Ticket{c.ticket}}, c.ticket.Id, signs+" 0"+c.want)
	}
}

// TestL1FullLedger: all digits of what is great are there, and all taps.
func TestL1FullLedger(t *testing.T) {
	l := api.Ledger{Tickets: []api.Ticket{day(9), day(10)}}
	signs, _ := code.Print(day(9))
	want := signs + " 60/0"
	for i := range 60 {
		l.Taps = append(l.Taps, tap(9, i%3, i+1, 9999-60*(59-i), 1))
		l.Verdicts = append(l.Verdicts, api.Ride)
		want += fmt.Sprintf(" r%d@%d", i%3, 9999-60*(59-i))
	}
	says(t, l, 9, want)
	signs, _ = code.Print(day(10))
	says(t, l, 10, signs+" 0/60")
	for i := range 60 {
		l.Taps[i].Ticket, l.Taps[i].Time = 10, 7
		l.Verdicts[i] = api.Change
	}
	l.Verdicts[0] = api.Ride
	want = signs + " 1/59 r0@7"
	for i := range 59 {
		want += fmt.Sprintf(" c%d@7", (i+1)%3)
	}
	says(t, l, 10, want)
}

// TestL1TimeOrder: taps of one time stand as they do in the ledger.
func TestL1TimeOrder(t *testing.T) {
	l := api.Ledger{Tickets: []api.Ticket{day(258)}, Taps: []api.Tap{tap(258, 2, 9, 30, 4), tap(258, 0, 5, 30, 1), tap(258, 0, 4, 30, 1), tap(258, 1, 1, 30, 2)}, Verdicts: []int{1, 2, 2, 2}}
	signs, _ := code.Print(day(258))
	says(t, l, 258, signs+" 1/59 r2@30 c0@30 c0@30 c1@30")
}

// wrongLedgers: what is wrong of a ledger, and what is told of it.
func wrongLedgers() map[string]struct {
	do   func(l *api.Ledger)
	want api.Errno
} {
	return map[string]struct {
		do   func(l *api.Ledger)
		want api.Errno
	}{
		"too many tickets":       {func(l *api.Ledger) { l.Tickets = make([]api.Ticket, 13) }, api.ErrMany},
		"too many taps":          {func(l *api.Ledger) { l.Taps, l.Verdicts = make([]api.Tap, 61), make([]int, 61) }, api.ErrMany},
		"a verdict less":         {func(l *api.Ledger) { l.Verdicts = l.Verdicts[:6] }, api.ErrMany},
		"a verdict more":         {func(l *api.Ledger) { l.Verdicts = append(l.Verdicts, 1) }, api.ErrMany},
		"no verdicts":            {func(l *api.Ledger) { l.Verdicts = nil }, api.ErrMany},
		"no tickets":             {func(l *api.Ledger) { l.Tickets = nil }, api.ErrNone},
		"a ticket's id":          {func(l *api.Ledger) { l.Tickets[0].Id = -1 }, api.ErrRange},
		"a ticket's kind":        {func(l *api.Ledger) { l.Tickets[3].Kind = 4 }, api.ErrKind},
		"a ticket's rides":       {func(l *api.Ledger) { l.Tickets[0].Rides = 1 }, api.ErrForm},
		"ids that do not rise":   {func(l *api.Ledger) { l.Tickets[1].Id = 1 }, api.ErrState},
		"a tap's gate":           {func(l *api.Ledger) { l.Taps[0].Gate = 3 }, api.ErrRange},
		"a tap's time":           {func(l *api.Ledger) { l.Taps[0].Time = -1 }, api.ErrRange},
		"a tap's zone":           {func(l *api.Ledger) { l.Taps[6].Zone = 3 }, api.ErrZone},
		"a number twice":         {func(l *api.Ledger) { l.Taps[6].Seq = 1 }, api.ErrTwice},
		"a verdict that is none": {func(l *api.Ledger) { l.Verdicts[6] = api.Refused }, api.ErrKind},
		"a time that falls":      {func(l *api.Ledger) { l.Taps[1].Time = 50 }, api.ErrState},
		"a wrong verdict":        {func(l *api.Ledger) { l.Verdicts[6] = api.Change }, api.ErrState},
	}
}

// TestL1LineErrors: a ledger's fault tells ahead of an id that is not there; ids that are none are not there.
func TestL1LineErrors(t *testing.T) {
	refuses := func(name string, l api.Ledger, id int, want api.Errno) {
		if got, e := report.Line(l, id); got != "" || e != want {
			t.Errorf("%s, %d: %q %d, not %d", name, id, got, e, want)
		}
	}
	missing := []int{0, 4, -1, 257, 10000, math.MinInt, math.MaxInt}
	for name, c := range wrongLedgers() {
		s := with(func(s *api.Station) { c.do(&s.Ledger) })
		for _, id := range append(missing, 1, 2, 3, 258) {
			refuses(name, s.Ledger, id, c.want)
		}
		if got, e := report.Text(s); got != "" || e != c.want {
			t.Errorf("%s: %q %d, not %d", name, got, e, c.want)
		}
	}
	for _, id := range missing {
		refuses("right", good().Ledger, id, api.ErrNone)
		refuses("nothing sold", api.Ledger{}, id, api.ErrNone)
	}
	refuses("denied and not sold", good().Ledger, 77, api.ErrNone)
}

// lines, each with a line feed.
func lines(l ...string) string { return strings.Join(l, "\n") + "\n" }

func TestL1Text(t *testing.T) {
	tells(t, "one that is led", good(), lines("leader 1", first, second+"!", third, fourth+"!"))
	tells(t, "a new one", station.New(), "leader -\n")
	tells(t, "nothing sold", with(func(s *api.Station) { s.Ledger, s.Gates[1].Alone = api.Ledger{}, nil }), "leader 1\n")
	tells(t, "nothing denied", with(func(s *api.Station) { s.Denied.Ids = nil }), lines("leader 1", first, second, third, fourth))
	tells(t, "all denied", with(func(s *api.Station) { s.Denied.Ids = []int{1, 2, 3, 258} }), lines("leader 1", first+"!", second+"!", third+"!", fourth+"!"))
	tells(t, "others denied", with(func(s *api.Station) { s.Denied.Ids = []int{4, 25, 259, 2580} }), lines("leader 1", first, second, third, fourth))
	for name, c := range map[string]struct {
		views []api.View
		who   string
	}{
		"server 0 leads":                  {[]api.View{{Epoch: 9, Up: true}, {Epoch: 2, Leader: 1, Up: true}, {Epoch: 9, Up: true}}, "0"},
		"server 1 leads":                  {[]api.View{{Epoch: 9, Leader: 1}, {Epoch: 9, Leader: 1, Up: true}, {Epoch: 9, Leader: 1, Up: true}}, "1"},
		"the leader is down":              {[]api.View{{Epoch: 9, Leader: 1, Up: true}, {Epoch: 9, Leader: 1}, {Epoch: 9, Leader: 1, Up: true}}, "-"},
		"too few are up":                  {[]api.View{{Epoch: 9, Up: true}, {Epoch: 9}, {Epoch: 9}}, "-"},
		"nobody has ever won":             {[]api.View{{Up: true}, {Up: true}, {Up: true}}, "-"},
		"the leader is of an elder epoch": {[]api.View{{Epoch: 3, Up: true}, {Epoch: 4, Leader: 1}, {Epoch: 3, Up: true}}, "-"},
		"all are down":                    {[]api.View{{}, {}, {}}, "-"},
	} {
		tells(t, name, with(func(s *api.Station) { s.Views = c.views }), lines("leader "+c.who, first, second+"!", third, fourth+"!"))
	}
}

// TestL1TextErrors: what is wrong of a station tells.
func TestL1TextErrors(t *testing.T) {
	for name, c := range map[string]struct {
		do   func(s *api.Station)
		want api.Errno
	}{
		"no station":           {func(s *api.Station) { *s = api.Station{} }, api.ErrForm},
		"a ledger and no more": {func(s *api.Station) { *s = api.Station{Ledger: s.Ledger} }, api.ErrForm},
		"the list's Version":   {func(s *api.Station) { s.Denied.Version = 1000 }, api.ErrRange},
		"the list's ids":       {func(s *api.Station) { s.Denied.Ids[0] = 300 }, api.ErrState},
		"too many denied":      {func(s *api.Station) { s.Denied.Ids = make([]int, 13) }, api.ErrMany},
		"two gates":            {func(s *api.Station) { s.Gates = s.Gates[:2] }, api.ErrForm},
		"a gate's zone":        {func(s *api.Station) { s.Gates[2].Zone = 0 }, api.ErrZone},
		"a gate's place":       {func(s *api.Station) { s.Gates[0].Id = 1 }, api.ErrState},
		"a gate's Seq":         {func(s *api.Station) { s.Gates[2].Seq = 0 }, api.ErrTwice},
		"a gate's list":        {func(s *api.Station) { s.Gates[2].Denied.Version = 6 }, api.ErrState},
		"two views":            {func(s *api.Station) { s.Views = s.Views[:2] }, api.ErrForm},
		"a view's leader":      {func(s *api.Station) { s.Views[0].Leader = 2 }, api.ErrRange},
		"two that lead":        {func(s *api.Station) { s.Views[1].Leader = 0 }, api.ErrState},
		"the ledger first":     {func(s *api.Station) { s.Views, s.Ledger.Tickets[0].Kind = nil, 0 }, api.ErrKind},
		"the list, then gates": {func(s *api.Station) { s.Gates, s.Denied.Version = nil, -1 }, api.ErrRange},
		"gates, then views":    {func(s *api.Station) { s.Views, s.Gates[0].Seq = nil, 1 }, api.ErrTwice},
	} {
		if got, e := report.Text(with(c.do)); got != "" || e != c.want {
			t.Errorf("%s: %q %d, not %d", name, got, e, c.want)
		}
	}
}

// TestL2Alone: stations of one ledger, one list and one leader have one report, whatever else is another thing.
func TestL2Alone(t *testing.T) {
	want, _ := report.Text(good())
	for name, do := range map[string]func(*api.Station){
		"nothing Alone":     func(s *api.Station) { s.Gates[1].Alone = nil },
		"other taps Alone":  func(s *api.Station) { s.Gates[1].Alone[0] = tap(3, 1, 4, 9999, 2) },
		"gates' lists":      func(s *api.Station) { s.Gates[2].Denied = api.Denied{Version: 5, Ids: []int{1, 3}} },
		"no list of a gate": func(s *api.Station) { s.Gates[0].Denied = api.Denied{} },
		"gates' zones":      func(s *api.Station) { s.Gates[0].Zone, s.Gates[2].Zone = 8, 8 },
		"gates' Seqs":       func(s *api.Station) { s.Gates[0].Seq, s.Gates[2].Seq = 99, 7 },
		"budgets": func(s *api.Station) {
			s.Gates[0].Budget, s.Gates[1].Budget = api.Budget{}, api.Budget{Left: 1, Until: 10099}
		},
		"who is up":               func(s *api.Station) { s.Views[0].Up = true },
		"another epoch":           func(s *api.Station) { s.Views[1].Epoch, s.Views[2].Epoch = 99, 99 },
		"another epoch of one":    func(s *api.Station) { s.Views[0] = api.View{} },
		"all of that epoch":       func(s *api.Station) { s.Views[0] = s.Views[1] },
		"by the servers":          func(s *api.Station) { s.Views[0], s.Views[2].Up = s.Views[1], false },
		"the list's Version":      func(s *api.Station) { s.Denied.Version = 999 },
		"what is denied, unsold":  func(s *api.Station) { s.Denied.Ids = []int{2, 258, 9999} },
		"lists with no more room": func(s *api.Station) { s.Ledger.Taps = slices.Clip(s.Ledger.Taps) },
	} {
		s := with(do)
		if station.Check(s) != api.OK {
			t.Fatal(name)
		}
		tells(t, name, s, want)
		for id, want := range map[int]string{1: first, 2: second, 3: third, 258: fourth} {
			says(t, s.Ledger, id, want)
		}
	}
}

// counted: a ticket's line by an own count of a ledger.
func counted(l api.Ledger, x api.Ticket) string {
	signs, _ := code.Print(x)
	rides, taps := 0, ""
	for i, p := range l.Taps {
		switch {
		case p.Ticket != x.Id:
		case l.Verdicts[i] == 1:
			rides++
			taps += fmt.Sprintf(" r%d@%d", p.Gate, p.Time)
		default:
			taps += fmt.Sprintf(" c%d@%d", p.Gate, p.Time)
		}
	}
	all := map[int]int{api.Single: 1, api.Day: 60, api.Carnet: x.Rides}[x.Kind]
	return fmt.Sprintf("%s %d/%d%s", signs, rides, all-rides, taps)
}

// drawn: some act at a time.
func drawn(r *rand.Rand, time int) api.Act {
	switch r.Intn(12) {
	case 0:
		return api.Act{Kind: api.ActUp + r.Intn(2), Of: r.Intn(3)}
	case 1:
		return api.Act{Kind: api.ActLead, Of: r.Intn(2)}
	case 2:
		return api.Act{Kind: api.ActSync, Of: r.Intn(3), Time: time}
	case 3:
		return api.Act{Kind: api.ActDeny, Id: 1 + r.Intn(40)}
	case 4, 5:
		x := api.Ticket{Id: 1 + r.Intn(14), Kind: 1 + r.Intn(3), To: 100 + r.Intn(9000), Zones: 15}
		if x.Kind == api.Carnet {
			x.Rides = 2 + r.Intn(8)
		}
		return api.Act{Kind: api.ActSell, Ticket: x}
	}
	return api.Act{Kind: api.ActTap, Id: 1 + r.Intn(14), Of: r.Intn(3), Time: time}
}

// TestL2Plays: whatever happens at a station, its report is what an own count says.
func TestL2Plays(t *testing.T) {
	r := rand.New(rand.NewSource(12))
	seen := map[string]int{}
	for range 100 {
		s := station.New()
		for time := 0; time < 900; time += r.Intn(10) {
			y, _, e := desk.Do(s, drawn(r, time))
			if e != api.OK {
				continue
			}
			s = y
			leader := "-"
			if who, is, _ := lead.Now(s.Views); is {
				leader = fmt.Sprint(who)
			}
			want := "leader " + leader + "\n"
			seen[leader]++
			for _, x := range s.Ledger.Tickets {
				line := counted(s.Ledger, x)
				says(t, s.Ledger, x.Id, line)
				want += line
				if slices.Contains(s.Denied.Ids, x.Id) {
					want += "!"
				}
				want += "\n"
			}
			tells(t, "a play", s, want)
			for _, sign := range "rc!" {
				seen[string(sign)] += strings.Count(want, string(sign))
			}
		}
	}
	for _, what := range []string{"-", "0", "1", "r", "c", "!"} {
		if seen[what] < 500 {
			t.Errorf("%s came %d times only: that tells little", what, seen[what])
		}
	}
}

// all of a station, with the spare room behind each of its lists.
func all(s api.Station) string {
	text := fmt.Sprint(s, s.Ledger.Tickets[:cap(s.Ledger.Tickets)], s.Ledger.Taps[:cap(s.Ledger.Taps)], s.Ledger.Verdicts[:cap(s.Ledger.Verdicts)],
		s.Denied.Ids[:cap(s.Denied.Ids)], s.Gates[:cap(s.Gates)], s.Views[:cap(s.Views)])
	for _, g := range s.Gates {
		text += fmt.Sprint(g.Alone[:cap(g.Alone)], g.Denied.Ids[:cap(g.Denied.Ids)])
	}
	return text
}

// TestP2OnlyRead: what is handed in is only read, and is not kept; a station that is changed behind a call has another report, and one that is as it was has the same.
func TestP2OnlyRead(t *testing.T) {
	s := good()
	before := all(s)
	want, _ := report.Text(s)
	for id := range 260 {
		report.Line(s.Ledger, id)
	}
	if all(s) != before {
		t.Error("it changed what it was handed")
	}
	s.Ledger.Tickets[0].To = 600
	s.Ledger.Taps[6].Time = 9998
	s.Denied.Ids[0] = 3
	s.Views[2].Up = false
	got, e := report.Text(s)
	signs, _ := code.Print(s.Ledger.Tickets[0])
	if e != api.OK || got != lines("leader -", signs+" 1/0 r0@20 c1@79", "000M91GUAGE4MU 2/58 r0@20 r1@9998", third+"!", fourth+"!") {
		t.Errorf("%q %d", got, e)
	}
	tells(t, "as it was", good(), want)
}

// TestP2Answered: a station that was answered, reported, and then changed, changes nothing of what is reported later.
func TestP2Answered(t *testing.T) {
	ahead, _ := report.Text(good())
	s := good()
	y, _, e := desk.Do(s, api.Act{Kind: api.ActDeny, Id: 3})
	behind, _ := report.Text(y)
	if e != api.OK || behind != strings.Replace(ahead, third, third+"!", 1) {
		t.Errorf("%q %d", behind, e)
	}
	y.Ledger.Taps[0].Gate, y.Ledger.Tickets[1].Id, y.Denied.Ids[0], y.Views[1].Up = 1, 7, 1, false
	tells(t, "what was handed in", s, ahead)
	z, _, _ := desk.Do(s, api.Act{Kind: api.ActDeny, Id: 3})
	tells(t, "what is answered again", z, behind)
}
