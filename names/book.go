package names

import "tappet/api"

// thing is what a name means: things of two kinds may have one name.
type thing struct {
	kind string
	name string
}

// entered is what a book knows of a thing: its number among those of its kind; of a message whether it is one that is sent.
type entered struct {
	id   int
	sent bool
}

// book has the things of a sheet by their kinds and names.
type book map[thing]entered

func bookOf(items []api.Item) (book, error) {
	b := book{}
	count := map[string]int{}
	for _, item := range items {
		t := thing{kind: item.Kind, name: item.Name}
		if _, double := b[t]; double {
			return nil, &unresolved{reason: errDouble, at: item.At, name: item.Name}
		}
		b[t] = entered{id: count[item.Kind], sent: word(item.Entries, "MESSAGEPROPERTY") == sentWord}
		count[item.Kind]++
	}
	return b, nil
}

// meant answers the kind of what an attribute refers to; none, if it is no ref.
func meant(attribute string) string {
	switch attribute {
	case "APPMODE", "RESOURCE", "EVENT", "MESSAGE", "COUNTER", "TASK":
		return attribute
	case "LINKEDRESOURCE":
		return "RESOURCE"
	case "SENDINGMESSAGE":
		return "MESSAGE"
	}
	return ""
}

// find looks up what a ref refers to.
func (b book) find(attribute, name string) (int, bool) {
	found, ok := b[thing{kind: meant(attribute), name: name}]
	if attribute == "SENDINGMESSAGE" && !found.sent {
		return 0, false
	}
	return found.id, ok
}

// check holds the entries of each item, and what stands in their braces, against the book.
func (b book) check(items []api.Item) error {
	for _, item := range items {
		if err := b.checkEntries(item.Entries); err != nil {
			return err
		}
	}
	return nil
}

// checkEntries goes through what stands in the same braces.
func (b book) checkEntries(l []api.Entry) error {
	stood := map[thing]int{}
	for _, e := range l {
		if why := b.wrong(e, stood); why != nil {
			return &unresolved{reason: why, at: e.At, name: e.Word}
		}
		if err := b.checkEntries(e.Params); err != nil {
			return err
		}
	}
	return nil
}

// wrong tells what is wrong with an entry, and notes a ref among those that stood in its braces: by its attribute, not by what that means, as another attribute may name the same thing.
func (b book) wrong(e api.Entry, stood map[thing]int) error {
	if e.Name == "STATUS" && e.Word == "STANDARD" {
		return errStandard
	}
	if meant(e.Name) == "" {
		return nil
	}
	if _, ok := b.find(e.Name, e.Word); !ok {
		return errUnknown
	}
	ref := thing{kind: e.Name, name: e.Word}
	stood[ref]++
	if stood[ref] > 1 {
		return errAgain
	}
	return nil
}
