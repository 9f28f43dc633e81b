package fresh_test

import (
	"fmt"
	"testing"

	"leeboard/api"
	"leeboard/fresh"
)

// lists of a station, each as a pointer to where it lies.
func lists(s *api.Station) []any {
	out := []any{&s.Ledger.Tickets[0], &s.Ledger.Taps[0], &s.Ledger.Verdicts[0], &s.Denied.Ids[0], &s.Gates[0], &s.Views[0]}
	for i := range s.Gates {
		out = append(out, &s.Gates[i].Alone[0], &s.Gates[i].Denied.Ids[0])
	}
	return out
}

// shared is a station of which all lists of one kind are one.
func shared() api.Station {
	taps := []api.Tap{{Ticket: 3, Gate: 1, Seq: 1, Time: 20, Zone: 2}}
	numbers := []int{1}
	list := api.Denied{Version: 2, Ids: numbers}
	return api.Station{
		Ledger: api.Ledger{Tickets: []api.Ticket{{Id: 3, Kind: api.Day, To: 9, Zones: 15}}, Taps: taps, Verdicts: numbers},
		Denied: list,
		Gates: []api.Gate{
			{Id: 0, Zone: 1, Seq: 1, Alone: taps, Denied: list, Budget: api.Budget{Left: 3, Until: 70}},
			{Id: 1, Zone: 2, Seq: 2, Alone: taps, Denied: list, Budget: api.Budget{Left: 4, Until: 80}},
		},
		Views: []api.View{{Epoch: 2, Leader: 1, Up: true}},
	}
}

func TestStation(t *testing.T) {
	s := shared()
	y := fresh.Station(s)
	if fmt.Sprint(y) != fmt.Sprint(s) || fmt.Sprint(s) != fmt.Sprint(shared()) {
		t.Fatalf("%+v", y)
	}
	seen := map[any]int{}
	for i, p := range lists(&s) {
		seen[p] = -1 - i
	}
	for i, p := range lists(&y) {
		if other, is := seen[p]; is {
			t.Errorf("list %d lies where list %d does", i, other)
		}
		seen[p] = i
	}
}

func TestEmpty(t *testing.T) {
	for _, s := range []api.Station{{}, {Gates: []api.Gate{}, Views: []api.View{}}, {Gates: make([]api.Gate, 5)}} {
		if y := fresh.Station(s); fmt.Sprint(y) != fmt.Sprint(s) {
			t.Errorf("%+v is %+v", s, y)
		}
	}
	if d := fresh.List(api.Denied{Version: 7}); d.Version != 7 || len(d.Ids) != 0 {
		t.Errorf("%+v", d)
	}
}

func TestList(t *testing.T) {
	d := api.Denied{Version: 9, Ids: []int{4, 5, 6}}
	y := fresh.List(d)
	if fmt.Sprint(y) != fmt.Sprint(d) {
		t.Fatalf("%+v", y)
	}
	y.Ids[1] = 50
	if d.Ids[1] != 5 {
		t.Error("it shares memory")
	}
}
