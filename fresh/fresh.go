// Package fresh: copies that share no memory with what they are copies of, where several layers ask for them.
package fresh

import (
	"slices"

	"leeboard/api"
)

// Station that shares no list with s, nor any two of its own lists with each other.
func Station(s api.Station) api.Station {
	gates := slices.Clone(s.Gates)
	for n, g := range gates {
		gates[n].Alone = slices.Clone(g.Alone)
		gates[n].Denied = List(g.Denied)
	}
	return api.Station{
		Ledger: api.Ledger{
			Tickets:  slices.Clone(s.Ledger.Tickets),
			Taps:     slices.Clone(s.Ledger.Taps),
			Verdicts: slices.Clone(s.Ledger.Verdicts),
		},
		Denied: List(s.Denied),
		Gates:  gates,
		Views:  slices.Clone(s.Views),
	}
}

// List of denied tickets that shares no memory with d.
func List(d api.Denied) api.Denied {
	return api.Denied{Version: d.Version, Ids: slices.Clone(d.Ids)}
}
