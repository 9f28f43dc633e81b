// Package limit: what numbers may be, where several layers ask it.
package limit

import "leeboard/api"

// Within tells whether n is from least to most, both too.
func Within(n, least, most int) bool {
	return least <= n && n <= most
}

// OneZone tells whether n is one zone, not none and no sum of several.
func OneZone(n int) bool {
	switch n {
	case 1, 2, 4, 8:
		return true
	}
	return false
}

// IsTime tells whether n is a time.
func IsTime(n int) bool {
	return Within(n, 0, api.MaxTime)
}
