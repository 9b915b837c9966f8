package printer

import (
	"tappet/api"
	"tappet/token"
)

// noToken is a kind of which there is no token.
const noToken api.TokenKind = -1

func nameToken(s string) api.Token { return api.Token{Kind: api.TokenName, Text: s} }

func stringToken(s string) api.Token { return api.Token{Kind: api.TokenString, Text: s} }

// valueToken carries over all fields of a value, so that Spell refuses those that its kind does not have.
func valueToken(v api.Value) api.Token {
	t := api.Token{Kind: noToken, Text: v.Text, Value: v.Number, Hex: v.Hex}
	switch v.Kind {
	case api.ValueName:
		t.Kind = api.TokenName
	case api.ValueNumber:
		t.Kind = api.TokenNumber
	case api.ValueString:
		t.Kind = api.TokenString
	}
	return t
}

func spellable(t api.Token) bool {
	_, e := token.Spell(t)
	return e == api.OK
}

// spelled writes a token that is spellable.
func spelled(t api.Token) string {
	s, _ := token.Spell(t)
	return s
}
