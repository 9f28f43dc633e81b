package code_test

import (
	"math/big"
	"math/rand"
	"strings"
	"testing"

	"leeboard/api"
	"leeboard/code"
	"leeboard/ticket"
)

const signs = "0123456789ABCDEFGHJKLMNPQRSTUVW"

func tickets() []api.Ticket {
	return []api.Ticket{
		{Id: 1, Kind: api.Single, Zones: 1},
		{Id: 258, Kind: api.Day, From: 10, To: 500, Zones: 15},
		{Id: 1, Kind: api.Carnet, Zones: 1, Rides: 2},
		{Id: 4711, Kind: api.Carnet, From: 300, To: 9999, Zones: 6, Rides: 9},
		{Id: 9999, Kind: api.Carnet, From: 9999, To: 9999, Zones: 15, Rides: 9},
	}
}

// adds up whether signs and their mark do what B1 asks.
func adds(s, mark string) bool {
	sum := strings.Index(signs, mark)
	for i, c := range s {
		p := i + 1
		sum += strings.IndexRune(signs, c) * (p + 1)
	}
	return sum%31 == 0
}

func TestB1Known(t *testing.T) {
	for s, want := range map[string]string{
		"0": "0", "1": "V", "W": "2", "10": "V", "01": "U", "WWWW": "E",
		"00000000000000000000": "0", "ABCDEFGHJKLMNPQRSTUV": "T",
	} {
		if got, e := code.Mark(s); got != want || e != api.OK {
			t.Errorf("%q: %q %d, not %q", s, got, e, want)
		}
	}
}

func TestB1EverySignAtEveryPlace(t *testing.T) {
	for n := 1; n <= 20; n++ {
		for place := range n {
			for _, sign := range signs {
				s := strings.Repeat("0", place) + string(sign) + strings.Repeat("7", n-1-place)
				got, e := code.Mark(s)
				if e != api.OK || len(got) != 1 || !strings.Contains(signs, got) || !adds(s, got) {
					t.Errorf("%q: %q %d", s, got, e)
				}
			}
		}
	}
}

func TestB1Wrong(t *testing.T) {
	for s, want := range map[string]api.Errno{
		"":                         api.ErrForm,
		" ":                        api.ErrForm,
		"1 ":                       api.ErrForm,
		"\xff":                     api.ErrForm,
		"\u00e9":                   api.ErrForm,
		strings.Repeat("I", 20):    api.ErrForm,
		strings.Repeat("0", 21):    api.ErrMany,
		strings.Repeat("I", 21):    api.ErrMany,
		strings.Repeat("W", 1<<16): api.ErrMany,
	} {
		if got, e := code.Mark(s); got != "" || e != want {
			t.Errorf("%q: %q %d, not %d", s, got, e, want)
		}
	}
}

func TestB1WhatIsNoSign(t *testing.T) {
	for b := range 256 {
		s := string([]byte{byte(b)})
		want := api.ErrForm
		if strings.Contains(signs, s) {
			want = api.OK
		}
		for _, text := range []string{s, "0" + s, s + "0", "0123456789" + s + "ABCDEFGHJ"} {
			if got, e := code.Mark(text); e != want || (got == "") != (want != api.OK) {
				t.Errorf("%q: %q %d, not %d", text, got, e, want)
			}
		}
	}
}

// onPaper: 13 signs of a number, worked out by numbers of any size.
func onPaper(n *big.Int) string {
	rest, digit, base := new(big.Int).Set(n), new(big.Int), big.NewInt(31)
	s := ""
	for range 13 {
		rest.DivMod(rest, base, digit)
		s = signs[digit.Int64():digit.Int64()+1] + s
	}
	return s
}

// marked is a text with its Mark.
func marked(t *testing.T, s string) string {
	t.Helper()
	m, e := code.Mark(s)
	if e != api.OK {
		t.Fatalf("no mark of %q: %d", s, e)
	}
	return s + m
}

func numberOf(t *testing.T, x api.Ticket) *big.Int {
	t.Helper()
	s, e := ticket.Encode(x)
	if e != api.OK {
		t.Fatalf("%+v: %d", x, e)
	}
	return new(big.Int).SetBytes([]byte(s))
}

func TestB2ThereAndBack(t *testing.T) {
	all, r := tickets(), rand.New(rand.NewSource(2))
	for range 2000 {
		from := r.Intn(api.MaxTime + 1)
		x := api.Ticket{Id: 1 + r.Intn(api.MaxId), Kind: 1 + r.Intn(3), From: from, To: from + r.Intn(api.MaxTime+1-from), Zones: 1 + r.Intn(api.AllZones)}
		if x.Kind == api.Carnet {
			x.Rides = 2 + r.Intn(api.MaxRides-1)
		}
		all = append(all, x)
	}
	for _, x := range all {
		want := marked(t, onPaper(numberOf(t, x)))
		s, e := code.Print(x)
		if s != want || e != api.OK {
			t.Errorf("%+v: %q %d, not %q", x, s, e, want)
		}
		if back, e := code.Parse(s); back != x || e != api.OK {
			t.Errorf("%q: %+v %d, not %+v", s, back, e, x)
		}
	}
}

func TestB2Known(t *testing.T) {
	for want, x := range map[string]api.Ticket{
		"000AL0PJ6WFSL1": tickets()[0],
		"02SJLBT3DL7F8E": tickets()[1],
		"3HPTFQ65R5LC7P": tickets()[4],
	} {
		if s, e := code.Print(x); s != want || e != api.OK {
			t.Errorf("%+v: %q %d, not %q", x, s, e, want)
		}
	}
}

func TestB2PrintTellsWhatCheckDoes(t *testing.T) {
	for _, x := range []api.Ticket{{}, {Id: 1, Zones: 1}, {Id: 1, Kind: 1, From: 1, Zones: 1}, {Id: 1, Kind: 1, Zones: 1, Rides: -1}, {Id: -1, Kind: 1, Zones: 1}, {Id: 65537, Kind: 1, Zones: 1}} {
		s, e := code.Print(x)
		if s != "" || e == api.OK || e != ticket.Check(x) {
			t.Errorf("%+v: %q %d, not %d", x, s, e, ticket.Check(x))
		}
	}
}

func noTicket(t *testing.T, s string) {
	t.Helper()
	if got, e := code.Parse(s); got != (api.Ticket{}) || e != api.ErrForm {
		t.Errorf("%q: %+v %d", s, got, e)
	}
}

func TestB2NoForm(t *testing.T) {
	for _, x := range tickets() {
		s, _ := code.Print(x)
		for n := range len(s) {
			noTicket(t, s[:n])
			noTicket(t, s[len(s)-n:])
		}
		for _, text := range []string{s + "0", "0" + s, " " + s, s + "\n", s + s, strings.ToLower(s), "\xff" + s[1:], s[:13] + "\xff", s[:12] + "\u00e9"} {
			noTicket(t, text)
		}
	}
	noTicket(t, strings.Repeat("0", 1<<16))
}

// TestB2NoTicketBehindIt: codes that are right but for the ticket, which is none.
func TestB2NoTicketBehindIt(t *testing.T) {
	for _, bytes := range []string{
		"\x00\x00\x00\x00\x00\x00\x00\x00",
		"\x00\x00\x00\x00\x00\x00\x11\x00",
		"\x00\x01\x00\x01\x00\x00\x11\x00",
		"\x00\x01\x00\x00\x00\x00\x41\x00",
		"\x00\x01\x00\x00\x00\x00\x31\x0a",
		"\xff\xff\xff\xff\xff\xff\xff\xff",
	} {
		noTicket(t, marked(t, onPaper(new(big.Int).SetBytes([]byte(bytes)))))
	}
	noTicket(t, marked(t, strings.Repeat("W", 13)))
}

// TestB2WrapsRound: 13 signs have room for a ticket's number and 2^64, which is not the ticket's Print.
func TestB2WrapsRound(t *testing.T) {
	for _, x := range tickets() {
		n := new(big.Int).Add(numberOf(t, x), new(big.Int).Lsh(big.NewInt(1), 64))
		noTicket(t, marked(t, onPaper(n)))
	}
}

func TestB3AnotherSign(t *testing.T) {
	for _, x := range tickets() {
		s, _ := code.Print(x)
		for place := range len(s) {
			for b := range 256 {
				if byte(b) == s[place] {
					continue
				}
				noTicket(t, s[:place]+string([]byte{byte(b)})+s[place+1:])
			}
		}
	}
}

func TestB3OtherWayRound(t *testing.T) {
	turned := 0
	for _, x := range tickets() {
		s, _ := code.Print(x)
		for place := range 12 {
			if s[place] == s[place+1] {
				continue
			}
			turned++
			noTicket(t, s[:place]+s[place+1:place+2]+s[place:place+1]+s[place+2:])
		}
	}
	if turned < 40 {
		t.Errorf("only %d were turned", turned)
	}
}

// TestB3MarkTells: the mark alone gives another sign away, and two that are turned, be there a ticket or not.
func TestB3MarkTells(t *testing.T) {
	s := "02SJLBT3DL7F8"
	mark, _ := code.Mark(s)
	for place := range len(s) {
		for _, sign := range signs {
			other := s[:place] + string(sign) + s[place+1:]
			if m, _ := code.Mark(other); (m == mark) != (other == s) {
				t.Errorf("%q and %q: %q", s, other, m)
			}
		}
		if place == 0 || s[place-1] == s[place] {
			continue
		}
		turned := s[:place-1] + s[place:place+1] + s[place-1:place] + s[place+1:]
		if m, _ := code.Mark(turned); m == mark {
			t.Errorf("%q and %q: %q", s, turned, m)
		}
	}
}

// TestP3SameAgain: what was asked ahead is not seen in an answer.
func TestP3SameAgain(t *testing.T) {
	x := tickets()[1]
	first, _ := code.Print(x)
	code.Parse("02")
	code.Mark(strings.Repeat("I", 21))
	if again, e := code.Print(x); again != first || e != api.OK {
		t.Errorf("%q %d, and ahead of it %q", again, e, first)
	}
}
