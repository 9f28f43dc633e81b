// Package limit: what numbers may be, where several layers ask it.
package limit

// Within tells whether n is from least to most, both too.
func Within(n, least, most int) bool {
	return least <= n && n <= most
}
