package ticket_test

import (
	"fmt"
	"math"
	"math/rand"
	"strings"
	"testing"

	"leeboard/api"
	"leeboard/ticket"
)

func good() api.Ticket {
	return api.Ticket{Id: 258, Kind: api.Day, From: 10, To: 500, Zones: 15}
}

// with is good() with one change.
func with(change func(*api.Ticket)) api.Ticket {
	t := good()
	change(&t)
	return t
}

func TestA1Edges(t *testing.T) {
	ends := func(least, most int) (in, out []int) {
		return []int{least, most}, []int{least - 1, most + 1, math.MinInt, math.MaxInt, least + 1<<16, least + 1<<32}
	}
	for _, c := range []struct {
		name        string
		least, most int
		wrong       api.Errno
		set         func(*api.Ticket, int)
	}{
		{"Id", 1, api.MaxId, api.ErrRange, func(x *api.Ticket, n int) { x.Id = n }},
		{"From", 0, api.MaxTime, api.ErrRange, func(x *api.Ticket, n int) { x.From, x.To = n, api.MaxTime }},
		{"To", 0, api.MaxTime, api.ErrRange, func(x *api.Ticket, n int) { x.From, x.To = 0, n }},
		{"Zones", 1, api.AllZones, api.ErrRange, func(x *api.Ticket, n int) { x.Zones = n }},
		{"Rides of a Single", 0, 0, api.ErrForm, func(x *api.Ticket, n int) { x.Kind, x.Rides = api.Single, n }},
		{"Rides of a Day", 0, 0, api.ErrForm, func(x *api.Ticket, n int) { x.Kind, x.Rides = api.Day, n }},
		{"Rides of a Carnet", 2, api.MaxRides, api.ErrForm, func(x *api.Ticket, n int) { x.Kind, x.Rides = api.Carnet, n }},
	} {
		in, out := ends(c.least, c.most)
		for _, n := range in {
			if got := ticket.Check(with(func(x *api.Ticket) { c.set(x, n) })); got != api.OK {
				t.Errorf("%s %d: %d", c.name, n, got)
			}
		}
		for _, n := range out {
			if got := ticket.Check(with(func(x *api.Ticket) { c.set(x, n) })); got != c.wrong {
				t.Errorf("%s %d: %d, not %d", c.name, n, got, c.wrong)
			}
		}
	}
}

func TestA1Kinds(t *testing.T) {
	for _, kind := range []int{api.Single, api.Day} {
		if got := ticket.Check(with(func(x *api.Ticket) { x.Kind = kind })); got != api.OK {
			t.Errorf("Kind %d: %d", kind, got)
		}
	}
	for _, kind := range []int{math.MinInt, -1, 0, 4, 16, 257, math.MaxInt} {
		if got := ticket.Check(with(func(x *api.Ticket) { x.Kind = kind })); got != api.ErrKind {
			t.Errorf("Kind %d: %d", kind, got)
		}
	}
	if got := ticket.Check(with(func(x *api.Ticket) { x.Kind = api.Carnet })); got != api.ErrForm {
		t.Errorf("a Carnet without rides: %d", got)
	}
}

func TestA1Times(t *testing.T) {
	for _, c := range []struct {
		from, to int
		want     api.Errno
	}{{0, 0, api.OK}, {9999, 9999, api.OK}, {7, 8, api.OK}, {8, 7, api.ErrState}, {9999, 0, api.ErrState}} {
		if got := ticket.Check(with(func(x *api.Ticket) { x.From, x.To = c.from, c.to })); got != c.want {
			t.Errorf("from %d to %d: %d", c.from, c.to, got)
		}
	}
}

// TestA1FirstNamed: of several faults the one that is named first tells.
func TestA1FirstNamed(t *testing.T) {
	faults := []struct {
		errno api.Errno
		make  func(*api.Ticket)
	}{
		{api.ErrRange, func(x *api.Ticket) { x.Zones = 16 }},
		{api.ErrKind, func(x *api.Ticket) { x.Kind = 4 }},
		{api.ErrState, func(x *api.Ticket) { x.From, x.To = 2, 1 }},
		{api.ErrForm, func(x *api.Ticket) { x.Rides = 1 }},
	}
	for set := 1; set < 1<<len(faults); set++ {
		x, want := good(), api.OK
		for i, f := range faults {
			if set>>i&1 == 0 {
				continue
			}
			f.make(&x)
			if want == api.OK {
				want = f.errno
			}
		}
		if got := ticket.Check(x); got != want {
			t.Errorf("%+v: %d, not %d", x, got, want)
		}
		if s, got := ticket.Encode(x); s != "" || got != want {
			t.Errorf("Encode of %+v: %q %d, not %d", x, s, got, want)
		}
	}
}

func TestA2Bytes(t *testing.T) {
	for _, c := range []struct {
		ticket api.Ticket
		want   string
	}{
		{api.Ticket{Id: 1, Kind: api.Single, Zones: 1}, "0001000000001100"},
		{good(), "0102000a01f42f00"},
		{api.Ticket{Id: 9999, Kind: api.Carnet, From: 9999, To: 9999, Zones: 15, Rides: 9}, "270f270f270f3f09"},
		{api.Ticket{Id: 255, Kind: api.Carnet, From: 256, To: 257, Zones: 8, Rides: 2}, "00ff010001013802"},
	} {
		s, e := ticket.Encode(c.ticket)
		if got := fmt.Sprintf("%x", s); got != c.want || e != api.OK {
			t.Errorf("%+v: %s %d, not %s", c.ticket, got, e, c.want)
		}
		if back, e := ticket.Decode(s); back != c.ticket || e != api.OK {
			t.Errorf("%s: %+v %d", c.want, back, e)
		}
	}
}

func TestA2NotEight(t *testing.T) {
	s, _ := ticket.Encode(good())
	for n := range 40 {
		if n == 8 {
			continue
		}
		for _, text := range []string{strings.Repeat(s, 5)[:n], strings.Repeat("\x00", n), strings.Repeat("\xff", n)} {
			if got, e := ticket.Decode(text); got != (api.Ticket{}) || e != api.ErrForm {
				t.Errorf("%x: %+v %d", text, got, e)
			}
		}
	}
}

func TestA2WrongBytes(t *testing.T) {
	for text, want := range map[string]api.Errno{
		"\x00\x00\x00\x00\x00\x00\x11\x00": api.ErrRange, // Id 0
		"\x27\x10\x00\x00\x00\x00\x11\x00": api.ErrRange, // Id 10000
		"\x00\x01\x27\x10\x27\x10\x11\x00": api.ErrRange, // times 10000
		"\x00\x01\x00\x00\x00\x00\x10\x00": api.ErrRange, // no zones
		"\x00\x01\x00\x00\x00\x00\x01\x00": api.ErrKind,  // kind 0
		"\x00\x01\x00\x00\x00\x00\x41\x00": api.ErrKind,  // kind 4
		"\x00\x01\x00\x00\x00\x00\xff\x00": api.ErrKind,  // kind 15
		"\x00\x01\x00\x01\x00\x00\x11\x00": api.ErrState, // To is less
		"\x00\x01\x00\x00\x00\x00\x11\x01": api.ErrForm,  // a Single with rides
		"\x00\x01\x00\x00\x00\x00\x31\x01": api.ErrForm,  // a Carnet with one ride
		"\x00\x01\x00\x00\x00\x00\x31\xff": api.ErrForm,
		"\x00\x00\x00\x01\x00\x00\x01\x01": api.ErrRange, // all of them
	} {
		if got, e := ticket.Decode(text); got != (api.Ticket{}) || e != want {
			t.Errorf("%x: %+v %d, not %d", text, got, e, want)
		}
	}
}

// TestA3ThereAndBack: each ticket that is one comes back, and no two have one text.
func TestA3ThereAndBack(t *testing.T) {
	numbers := []int{0, 1, 2, 255, 256, 257, 4095, 9998, 9999}
	seen := map[string]api.Ticket{}
	for _, id := range numbers {
		for _, from := range numbers {
			for _, to := range numbers {
				for kind := api.Single; kind <= api.Carnet; kind++ {
					for zones := range api.AllZones + 2 {
						x := api.Ticket{Id: id, Kind: kind, From: from, To: to, Zones: zones, Rides: zones * (kind / api.Carnet)}
						thereAndBack(t, x, seen)
					}
				}
			}
		}
	}
	if len(seen) < 1000 {
		t.Errorf("only %d tickets were encoded", len(seen))
	}
}

func thereAndBack(t *testing.T, x api.Ticket, seen map[string]api.Ticket) {
	t.Helper()
	s, e := ticket.Encode(x)
	if e != ticket.Check(x) {
		t.Errorf("%+v: Encode says %d, Check %d", x, e, ticket.Check(x))
	}
	if e != api.OK {
		if s != "" {
			t.Errorf("%+v: %x beside an error", x, s)
		}
		return
	}
	if other, there := seen[s]; there {
		t.Errorf("%x is %+v and %+v", s, other, x)
	}
	seen[s] = x
	if back, e := ticket.Decode(s); back != x || e != api.OK {
		t.Errorf("%+v came back as %+v %d", x, back, e)
	}
}

// TestA3NothingElse: whatever is decoded is encoded as these very bytes.
func TestA3NothingElse(t *testing.T) {
	r := rand.New(rand.NewSource(1))
	texts, decoded := []string{}, 0
	for _, x := range []api.Ticket{good(), {Id: 1, Kind: api.Single, Zones: 1}, {Id: 9999, Kind: api.Carnet, From: 9999, To: 9999, Zones: 15, Rides: 9}} {
		s, _ := ticket.Encode(x)
		for place := range s {
			for b := range 256 {
				texts = append(texts, s[:place]+string([]byte{byte(b)})+s[place+1:])
			}
		}
	}
	for range 20000 {
		b := make([]byte, 8)
		r.Read(b)
		for i := range 3 {
			b[2*i] &= 0x3f
		}
		b[6] &= 0x3f
		b[7] &= 0x0f
		texts = append(texts, string(b))
	}
	for _, text := range texts {
		x, e := ticket.Decode(text)
		if e != api.OK {
			if x != (api.Ticket{}) {
				t.Errorf("%x: %+v beside error %d", text, x, e)
			}
			continue
		}
		decoded++
		if s, e := ticket.Encode(x); s != text || e != api.OK {
			t.Errorf("%x is decoded, but %x %d is encoded", text, s, e)
		}
	}
	if decoded < 1000 || decoded == len(texts) {
		t.Errorf("%d of %d were decoded: that tells little", decoded, len(texts))
	}
}
