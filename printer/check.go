package printer

import (
	"cmp"

	"tappet/api"
)

// check tells the first thing of a tree, in the text's order, that no text has.
func check(t api.Tree) error {
	if why := cmp.Or(checkString(t.Version), checkName(t.CPU)); why != nil {
		return &misfit{reason: why}
	}
	for i, o := range t.Objects {
		if err := checkObject(o, i); err != nil {
			return err
		}
	}
	if why := checkNote(t.Noted, t.Note); why != nil {
		return &misfit{reason: why}
	}
	return nil
}

func checkObject(o api.Object, number int) error {
	steps := []int{number}
	var walk func(l []api.Attr) error
	walk = func(l []api.Attr) error {
		for i, a := range l {
			steps = append(steps, i)
			// Parameters are as deep as attributes are gone through down to them.
			if why := cmp.Or(checkName(a.Name), checkValue(a.Value), checkBraces(a, len(steps)-1)); why != nil {
				return &misfit{reason: why, steps: steps}
			}
			if err := walk(a.Params); err != nil {
				return err
			}
			if why := checkNote(a.Noted, a.Note); why != nil {
				return &misfit{reason: why, steps: steps}
			}
			steps = steps[:len(steps)-1]
		}
		return nil
	}
	if why := cmp.Or(checkName(o.Kind), checkName(o.Name)); why != nil {
		return &misfit{reason: why, steps: steps}
	}
	if err := walk(o.Attrs); err != nil {
		return err
	}
	if why := checkNote(o.Noted, o.Note); why != nil {
		return &misfit{reason: why, steps: steps}
	}
	return nil
}

func checkName(s string) error {
	if !spellable(nameToken(s)) {
		return errName
	}
	return nil
}

func checkString(s string) error {
	if !spellable(stringToken(s)) {
		return errString
	}
	return nil
}

func checkValue(v api.Value) error {
	if !spellable(valueToken(v)) {
		return errValue
	}
	return nil
}

// checkBraces looks at an attribute's braces, in which parameters stand at a depth.
func checkBraces(a api.Attr, depth int) error {
	if !a.Braced && len(a.Params) > 0 {
		return errParams
	}
	if a.Braced && depth > api.MaxDepth {
		return errDeep
	}
	return nil
}

func checkNote(noted bool, note string) error {
	if noted {
		return checkString(note)
	}
	if note != "" {
		return errNote
	}
	return nil
}
