package tree

import (
	"tappet/api"
)

// parser reads tokens by the grammar; the last one is the text's end.
type parser struct {
	rest []api.Token
}

func (p *parser) comes(kind api.TokenKind) bool { return p.rest[0].Kind == kind }

// take goes behind the next token, which must be of a kind.
func (p *parser) take(kind api.TokenKind) api.Token {
	t := p.rest[0]
	if t.Kind != kind {
		p.giveUp(api.ErrExpect)
	}
	p.rest = p.rest[1:]
	return t
}

// word takes a name of just these bytes.
func (p *parser) word(w string) {
	if p.rest[0].Text != w {
		p.giveUp(api.ErrExpect)
	}
	p.take(api.TokenName)
}

func (p *parser) text() api.Tree {
	var t api.Tree
	p.word("OIL_VERSION")
	p.take(api.TokenEqual)
	t.Version = p.take(api.TokenString).Text
	p.take(api.TokenSemi)
	p.word("CPU")
	t.CPU = p.take(api.TokenName).Text
	p.take(api.TokenOpen)
	for !p.comes(api.TokenClose) {
		t.Objects = append(t.Objects, p.object())
	}
	p.take(api.TokenClose)
	t.Noted, t.Note = p.note()
	p.take(api.TokenSemi)
	p.take(api.TokenEnd)
	return t
}

func (p *parser) object() api.Object {
	kind := p.take(api.TokenName)
	o := api.Object{Kind: kind.Text, At: kind.At}
	o.Name = p.take(api.TokenName).Text
	o.Attrs = p.attrs(0)
	o.Noted, o.Note = p.note()
	p.take(api.TokenSemi)
	return o
}

// attrs reads braces and the attributes in them, which stand at a depth.
func (p *parser) attrs(depth int) []api.Attr {
	var l []api.Attr
	p.take(api.TokenOpen)
	for !p.comes(api.TokenClose) {
		l = append(l, p.attr(depth))
	}
	p.take(api.TokenClose)
	return l
}

func (p *parser) attr(depth int) api.Attr {
	name := p.take(api.TokenName)
	a := api.Attr{Name: name.Text, At: name.At}
	p.take(api.TokenEqual)
	a.Value = p.value()
	if p.comes(api.TokenOpen) {
		if depth == api.MaxDepth {
			p.giveUp(api.ErrDeep)
		}
		a.Braced = true
		a.Params = p.attrs(depth + 1)
	}
	a.Noted, a.Note = p.note()
	p.take(api.TokenSemi)
	return a
}

func (p *parser) value() api.Value {
	switch {
	case p.comes(api.TokenNumber):
		t := p.take(api.TokenNumber)
		return api.Value{Kind: api.ValueNumber, Number: t.Value, Hex: t.Hex}
	case p.comes(api.TokenString):
		return api.Value{Kind: api.ValueString, Text: p.take(api.TokenString).Text}
	}
	return api.Value{Kind: api.ValueName, Text: p.take(api.TokenName).Text}
}

// note answers whether there is a note, and what it says.
func (p *parser) note() (bool, string) {
	if !p.comes(api.TokenColon) {
		return false, ""
	}
	p.take(api.TokenColon)
	return true, p.take(api.TokenString).Text
}
