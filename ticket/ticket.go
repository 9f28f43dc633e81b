// Package ticket: tickets: see doc/01-ticket.md.
package ticket

import (
	"leeboard/api"
	"leeboard/limit"
	"leeboard/octet"
)

// kindStep is what Kind is multiplied by where it shares a byte with Zones.
const kindStep = api.AllZones + 1

// Check a ticket.
func Check(t api.Ticket) api.Errno {
	switch {
	case !inRange(t):
		return api.ErrRange
	case !limit.Within(t.Kind, api.Single, api.Carnet):
		return api.ErrKind
	case t.To < t.From:
		return api.ErrState
	case !ridesFit(t):
		return api.ErrForm
	}
	return api.OK
}

// Encode a ticket.
func Encode(t api.Ticket) (string, api.Errno) {
	if e := Check(t); e != api.OK {
		return "", e
	}
	pairs := octet.Put(2, uint64(t.Id), uint64(t.From), uint64(t.To))
	return pairs + octet.Put(1, uint64(t.Kind*kindStep+t.Zones), uint64(t.Rides)), api.OK
}

// Decode a ticket.
func Decode(s string) (api.Ticket, api.Errno) {
	var t api.Ticket
	if !octet.Whole(s, func(r *octet.Reader) { t = read(r) }) {
		return api.Ticket{}, api.ErrForm
	}
	if e := Check(t); e != api.OK {
		return api.Ticket{}, e
	}
	return t, api.OK
}

func read(r *octet.Reader) api.Ticket {
	var t api.Ticket
	t.Id = int(r.Number(2))
	t.From = int(r.Number(2))
	t.To = int(r.Number(2))
	both := int(r.Number(1))
	t.Kind, t.Zones = both/kindStep, both%kindStep
	t.Rides = int(r.Number(1))
	return t
}

func inRange(t api.Ticket) bool {
	return limit.Within(t.Id, 1, api.MaxId) &&
		limit.IsTime(t.From) &&
		limit.IsTime(t.To) &&
		limit.Within(t.Zones, 1, api.AllZones)
}

func ridesFit(t api.Ticket) bool {
	if t.Kind == api.Carnet {
		return limit.Within(t.Rides, 2, api.MaxRides)
	}
	return t.Rides == 0
}
