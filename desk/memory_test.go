package desk_test

import (
	"fmt"
	"reflect"
	"slices"
	"testing"

	"leeboard/api"
	"leeboard/desk"
	"leeboard/lead"
)

// lists in a thing, each with the spare room behind it; what lies in there, too.
func lists(v reflect.Value) []reflect.Value {
	var out []reflect.Value
	switch v.Kind() {
	case reflect.Struct:
		for i := range v.NumField() {
			out = append(out, lists(v.Field(i))...)
		}
	case reflect.Slice:
		v = v.Slice(0, v.Cap())
		out = append(out, v)
		for i := range v.Len() {
			out = append(out, lists(v.Index(i))...)
		}
	}
	return out
}

// all that a thing holds, the spare room too.
func all(x any) string {
	text := fmt.Sprint(x)
	for _, l := range lists(reflect.ValueOf(x)) {
		text += fmt.Sprint(l)
	}
	return text
}

// scrawl over all lists of a thing, the spare room too.
func scrawl(x any) {
	for _, l := range slices.Backward(lists(reflect.ValueOf(x))) {
		for i := range l.Len() {
			blot(l.Index(i))
		}
	}
}

// blot out each number of what lies in a list.
func blot(v reflect.Value) {
	switch v.Kind() {
	case reflect.Int:
		v.SetInt(-7)
	case reflect.Bool:
		v.SetBool(!v.Bool())
	case reflect.Struct:
		for i := range v.NumField() {
			blot(v.Field(i))
		}
	}
}

// meet tells whether two lists lie in one place, be it in part.
func meet(a, b reflect.Value) bool {
	end := func(l reflect.Value) uintptr { return l.Pointer() + uintptr(l.Len())*l.Type().Elem().Size() }
	return a.Len() > 0 && b.Len() > 0 && a.Pointer() < end(b) && b.Pointer() < end(a)
}

// own tells whether no list of an answer lies where another one of it does, or one of what was handed in.
func own(answer, handed any) bool {
	mine := lists(reflect.ValueOf(answer))
	for i, a := range mine {
		if slices.ContainsFunc(slices.Concat(mine[:i], lists(reflect.ValueOf(handed))), func(b reflect.Value) bool { return meet(a, b) }) {
			return false
		}
	}
	return true
}

// TestMemoryLooks: what looks for shared memory finds it.
func TestMemoryLooks(t *testing.T) {
	s := good()
	if y := good(); !own(y, s) {
		t.Error("two are one")
	}
	for i, do := range []func(y *api.Station){
		func(y *api.Station) { y.Ledger.Taps = s.Ledger.Taps },
		func(y *api.Station) { y.Ledger.Verdicts = s.Denied.Ids[1:] },
		func(y *api.Station) { y.Gates[1].Denied.Ids = y.Denied.Ids },
		func(y *api.Station) { y.Gates[2].Alone = y.Gates[1].Alone[:0] },
		func(y *api.Station) { y.Views = s.Views[:0] },
	} {
		y := good()
		do(&y)
		if own(y, s) {
			t.Errorf("%d was not found", i)
		}
	}
	before := all(s)
	s.Gates[1].Alone[:9][8].Seq = 4
	if all(s) == before {
		t.Error("a change of the spare room was not found")
	}
	before = all(s)
	scrawl(s)
	if all(s) == before || s.Views[1].Epoch != -7 || s.Ledger.Tickets[4].Zones != -7 {
		t.Error("nothing was changed")
	}
}

// TestP2Do: a station that is handed in is only read; what is answered is new, and no two lists of it are one; and a later call answers the same, whatever was done with either.
func TestP2Do(t *testing.T) {
	for name, c := range map[string]struct {
		do  func(*api.Station)
		act api.Act
	}{
		"sell":                        {nothing, sell(day(10))},
		"tap that is entered":         {bare, ride(5, 0, 150)},
		"tap where nobody leads":      {leaderless, ride(5, 0, 150)},
		"tap where some are Alone":    {nothing, ride(9, 1, 150)},
		"tap that is refused":         {bare, ride(3, 0, 100)},
		"deny":                        {nothing, deny(5)},
		"deny what is denied":         {nothing, deny(12)},
		"deny where nobody leads":     {leaderless, deny(5)},
		"sync":                        {nothing, sync(1, 150)},
		"sync with nothing to tell":   {nothing, sync(0, 150)},
		"sync with some told":         {alone(2, at(80, 3), at(81, 50)), sync(2, 150)},
		"up":                          {nothing, up(0)},
		"up that is up":               {nothing, up(1)},
		"down":                        {nothing, down(1)},
		"down that is down":           {nothing, down(0)},
		"lead":                        {nothing, wants(1)},
		"lead that does not win":      {nothing, wants(0)},
		"lead that does not win, few": {leaderless, wants(0)},
		"no act":                      {nothing, api.Act{}},
		"an act with too much":        {nothing, api.Act{Kind: api.ActUp, Id: 1}},
	} {
		s := with(c.do)
		before := all(s)
		y, n, e := desk.Do(s, c.act)
		first := fmt.Sprint(y, n, e)
		if all(s) != before {
			t.Errorf("%s changed what it was handed", name)
		}
		if !own(y, s) {
			t.Errorf("%s: lists share memory", name)
		}
		scrawl(y)
		if all(s) != before {
			t.Errorf("%s hands out what it was handed", name)
		}
		y, n, e = desk.Do(s, c.act)
		if fmt.Sprint(y, n, e) != first {
			t.Errorf("%s answers something else when its answer was changed", name)
		}
		scrawl(s)
		if fmt.Sprint(y, n, e) != first {
			t.Errorf("%s keeps what it was handed", name)
		}
		if y, n, e = desk.Do(with(c.do), c.act); fmt.Sprint(y, n, e) != first {
			t.Errorf("%s answers something else when what it was handed was changed", name)
		}
	}
}

// TestP2Run: a script is only read, and what comes of it is the caller's.
func TestP2Run(t *testing.T) {
	l, _ := script()
	l = roomy(l...)
	for n := range len(l) + 1 {
		before := all(l[:n])
		s, done, e := desk.Run(l[:n])
		first := fmt.Sprint(s, done, e)
		if all(l[:n]) != before {
			t.Fatalf("%d acts were changed", n)
		}
		if !own(s, done) || !own(s, l) {
			t.Errorf("%d acts: lists share memory", n)
		}
		scrawl(s)
		scrawl(done)
		again, done, e := desk.Run(l[:n])
		if fmt.Sprint(again, done, e) != first || all(l[:n]) != before {
			t.Errorf("%d acts come to something else when the answer was changed", n)
		}
	}
	s, done, e := desk.Run(l)
	first := fmt.Sprint(s, done, e)
	scrawl(l)
	if fmt.Sprint(s, done, e) != first {
		t.Error("it keeps the script")
	}
}

// TestP2Later: stations, views and lists that were answered on the way, and then changed, change nothing that a later act answers.
func TestP2Later(t *testing.T) {
	l, errnos := script()
	want, _, _ := desk.Run(l)
	s, _, _ := desk.Run(nil)
	for i, a := range l {
		y, _, e := desk.Do(s, a)
		kept, _, _ := desk.Do(s, a)
		if e != errnos[i] {
			t.Fatalf("act %d: %d", i, e)
		}
		if e == api.OK {
			scrawl(y)
			s = kept
		}
		won, _, _ := lead.Win(s.Views, 0)
		set, _ := lead.Set(s.Views, 1, true)
		scrawl(won)
		scrawl(set)
		other, done, _ := desk.Run(l[:i])
		scrawl(other)
		scrawl(done)
	}
	if !same(s, want) {
		t.Errorf("%+v, not %+v", s, want)
	}
}

// TestP3SameAgain: a call changes nothing that a later one could tell.
func TestP3SameAgain(t *testing.T) {
	l, _ := script()
	ask := func() string {
		s, done, e := desk.Run(l)
		y, n, f := desk.Do(with(bare), ride(9, 0, 120))
		return fmt.Sprint(s, done, e, y, n, f)
	}
	first := ask()
	desk.Run(acts(wants(0), sell(day(1)), ride(1, 0, 5), deny(1)))
	desk.Run(slices.Repeat(l, 3))
	desk.Do(good(), deny(9))
	desk.Do(api.Station{}, deny(9))
	desk.Do(with(bare), ride(3, 0, 100))
	if again := ask(); again != first {
		t.Errorf("%s, then %s", first, again)
	}
}
