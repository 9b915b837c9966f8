package printer

import (
	"strings"

	"tappet/api"
)

// write answers the text of a tree, or what is wrong with it.
func write(t api.Tree) (string, error) {
	if err := check(t); err != nil {
		return "", err
	}
	var p page
	p.tree(t)
	if p.text.Len() > api.MaxOil {
		return "", &misfit{reason: errLong}
	}
	return p.text.String(), nil
}

// page is a text that is written line by line, of a tree that fits.
type page struct {
	text strings.Builder
}

func (p *page) line(depth int, l ...string) {
	for range depth {
		p.text.WriteString("  ")
	}
	p.text.WriteString(words(l...))
	p.text.WriteByte('\n')
}

func (p *page) tree(t api.Tree) {
	p.line(0, "OIL_VERSION", "=", spelled(stringToken(t.Version)), ";")
	p.line(0, "CPU", spelled(nameToken(t.CPU)), "{")
	for _, o := range t.Objects {
		p.object(o)
	}
	p.line(0, "}", end(t.Noted, t.Note))
}

func (p *page) object(o api.Object) {
	// Objects and attributes differ in nothing but their heads.
	var block func(depth int, head string, braced bool, inner []api.Attr, tail string)
	block = func(depth int, head string, braced bool, inner []api.Attr, tail string) {
		switch {
		case !braced:
			p.line(depth, head, tail)
		case len(inner) == 0:
			p.line(depth, head, "{", "}", tail)
		default:
			p.line(depth, head, "{")
			for _, a := range inner {
				block(depth+1, attrHead(a), a.Braced, a.Params, end(a.Noted, a.Note))
			}
			p.line(depth, "}", tail)
		}
	}
	block(1, objectHead(o), true, o.Attrs, end(o.Noted, o.Note))
}

func objectHead(o api.Object) string {
	return words(spelled(nameToken(o.Kind)), spelled(nameToken(o.Name)))
}

func attrHead(a api.Attr) string {
	return words(spelled(nameToken(a.Name)), "=", spelled(valueToken(a.Value)))
}

// end writes what ends a tree, an object, an attribute: its description, if it has one, and a semicolon.
func end(noted bool, note string) string {
	if !noted {
		return ";"
	}
	return words(":", spelled(stringToken(note)), ";")
}

// words puts words together, a blank between each two, but none ahead of a semicolon.
func words(l ...string) string {
	var b strings.Builder
	for i, w := range l {
		if i > 0 && w != ";" {
			b.WriteByte(' ')
		}
		b.WriteString(w)
	}
	return b.String()
}
