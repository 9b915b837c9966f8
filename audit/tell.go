package audit

import (
	"strconv"

	"tappet/api"
)

// words are the findings', by their kinds.
var words = [...]string{
	api.FindLimit:   "limit",
	api.FindHeld:    "held",
	api.FindCeiling: "ceiling",
	api.FindOrder:   "order",
	api.FindLate:    "late",
	api.FindEarly:   "early",
	api.FindBlocked: "blocked",
	api.FindIdle:    "idle",
}

// Tell writes a finding (P26.4).
func Tell(f api.Finding) string {
	switch {
	case f.Kind < api.FindLimit || f.Kind > api.FindIdle:
		return line("finding", int(f.Kind), f.Entry, f.ID, f.Other)
	case f.Kind == api.FindBlocked:
		return line(words[f.Kind], f.Entry, f.ID, f.Other)
	}
	return line(words[f.Kind], f.Entry, f.ID)
}

func line(word string, numbers ...int) string {
	for _, n := range numbers {
		word += " " + strconv.Itoa(n)
	}
	return word
}
