package table

import "cmp"

// rows makes a row of each thing of a list, in new memory.
func rows[T, R any](l []T, row func(T) R) []R {
	out := make([]R, 0, len(l))
	for _, x := range l {
		out = append(out, row(x))
	}
	return out
}

// those answers the things of a list of which something is so, in new memory.
func those[T any](l []T, is func(T) bool) []T {
	var out []T
	for _, x := range l {
		if is(x) {
			out = append(out, x)
		}
	}
	return out
}

// every tells whether something is so of each thing of a list.
func every[T any](l []T, is func(T) bool) bool {
	for _, x := range l {
		if !is(x) {
			return false
		}
	}
	return true
}

// sum adds up what the things of a list have.
func sum[T any](l []T, has func(T) int) int {
	total := 0
	for _, x := range l {
		total += has(x)
	}
	return total
}

// crowd answers how many things of a list are at one place, where most of them are.
func crowd[T any](l []T, place func(T) int) int {
	at, most := make(map[int]int), 0
	for _, x := range l {
		at[place(x)]++
		most = max(most, at[place(x)])
	}
	return most
}

func within[T cmp.Ordered](v, least, most T) bool { return least <= v && v <= most }

// isID tells whether a number is the place of a thing in a list.
func isID[T any](id int, l []T) bool { return 0 <= id && id < len(l) }

// bits answers a number that has the bits of these places.
func bits(places []int) uint32 {
	var out uint32
	for _, place := range places {
		out |= 1 << place
	}
	return out
}
