package class

import (
	"cmp"

	"tappet/api"
)

// isName tells whether a text is a name of this layer.
func isName(s string) bool {
	if s == "" || len(s) > api.MaxName || !letter(s[0]) {
		return false
	}
	for i := range len(s) {
		if !letter(s[i]) && !digit(s[i]) {
			return false
		}
	}
	return true
}

func letter(b byte) bool { return within(b, 'A', 'Z') || within(b, 'a', 'z') || b == '_' }

func digit(b byte) bool { return within(b, '0', '9') }

func within[T cmp.Ordered](v, least, most T) bool { return least <= v && v <= most }

// isID tells whether a number is an id of a kind of which there are n objects.
func isID(id, n int) bool { return 0 <= id && id < n }

// rises tells whether a list of ids rises, each of a kind of which there are n objects.
func rises(ids []int, n int) bool {
	ahead := -1
	for _, id := range ids {
		if !isID(id, n) || id <= ahead {
			return false
		}
		ahead = id
	}
	return true
}

// internals counts the internal ones among some resources.
func internals(c api.Config, ids []int) int {
	n := 0
	for _, id := range ids {
		if c.Resources[id].Kind == api.ResInternal {
			n++
		}
	}
	return n
}
