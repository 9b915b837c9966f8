package tree

import (
	"errors"
	"strconv"

	"tappet/api"
)

// misplaced is a token that may not stand where it does.
type misplaced struct {
	code api.Errno
	at   api.Spot
}

func (m *misplaced) Error() string {
	return strconv.Itoa(m.at.Line) + ":" + strconv.Itoa(m.at.Col) + ": error " + strconv.Itoa(int(m.code))
}

// gaveUp is what a parser panics with; by this type it is told from a panic that nobody meant.
type gaveUp struct {
	why error
}

func (g *gaveUp) Error() string { return "no tree: " + g.why.Error() }

func (g *gaveUp) Unwrap() error { return g.why }

// giveUp leaves the parser, however deep inside it is, because of the next token.
func (p *parser) giveUp(code api.Errno) {
	panic(&gaveUp{why: &misplaced{code: code, at: p.rest[0].At}})
}

// fault tells what a parser panicked with as plain data.
func fault(r any) api.Fault {
	var m *misplaced
	if g, ok := r.(*gaveUp); ok && errors.As(g, &m) {
		return api.Fault{Code: m.code, At: m.at}
	}
	panic(r)
}
