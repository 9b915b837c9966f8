package schema_test

import (
	"slices"
	"strconv"
	"strings"
	"testing"

	"tappet/api"
	"tappet/schema"
)

// A second reading of the chapter: its table as it is printed there, and what P5.2 says of a tree, told by that table's own words.

const printedTable = `
| OS | | STATUS | words STANDARD EXTENDED | maybe EXTENDED |
| OS | | STARTUPHOOK | bool | maybe FALSE |
| OS | | ERRORHOOK | bool | maybe FALSE |
| OS | | SHUTDOWNHOOK | bool | maybe FALSE |
| OS | | PRETASKHOOK | bool | maybe FALSE |
| OS | | POSTTASKHOOK | bool | maybe FALSE |
| OS | | USEGETSERVICEID | bool | maybe FALSE |
| OS | | USEPARAMETERACCESS | bool | maybe FALSE |
| OS | | USERESSCHEDULER | bool | maybe TRUE |
| TASK | | PRIORITY | number 0 to 63 | once |
| TASK | | SCHEDULE | words NON FULL | once |
| TASK | | ACTIVATION | number 1 to 255 | once |
| TASK | | AUTOSTART | bool | once |
| TASK | AUTOSTART TRUE | APPMODE | ref | any |
| TASK | | RESOURCE | ref | any |
| TASK | | EVENT | ref | any |
| TASK | | MESSAGE | ref | any |
| ISR | | CATEGORY | number 1 to 2 | once |
| ISR | | PRIORITY | number 64 to 127 | once |
| ISR | | RESOURCE | ref | any |
| ISR | | MESSAGE | ref | any |
| RESOURCE | | RESOURCEPROPERTY | words STANDARD LINKED INTERNAL | once |
| RESOURCE | RESOURCEPROPERTY LINKED | LINKEDRESOURCE | ref | once |
| EVENT | | MASK | number 1 to N or AUTO | maybe AUTO |
| COUNTER | | MAXALLOWEDVALUE | number 1 to M | once |
| COUNTER | | TICKSPERBASE | number 1 to M | once |
| COUNTER | | MINCYCLE | number 1 to M | once |
| ALARM | | COUNTER | ref | once |
| ALARM | | ACTION | words ACTIVATETASK SETEVENT ALARMCALLBACK | once |
| ALARM | ACTION ACTIVATETASK | TASK | ref | once |
| ALARM | ACTION SETEVENT | TASK | ref | once |
| ALARM | ACTION SETEVENT | EVENT | ref | once |
| ALARM | ACTION ALARMCALLBACK | ALARMCALLBACKNAME | text | once |
| ALARM | | AUTOSTART | bool | once |
| ALARM | AUTOSTART TRUE | ALARMTIME | number 0 to M | once |
| ALARM | AUTOSTART TRUE | CYCLETIME | number 0 to M | once |
| ALARM | AUTOSTART TRUE | APPMODE | ref | any |
| MESSAGE | | MESSAGEPROPERTY | words SEND_STATIC_INTERNAL RECEIVE_UNQUEUED_INTERNAL RECEIVE_QUEUED_INTERNAL | once |
| MESSAGE | MESSAGEPROPERTY SEND_STATIC_INTERNAL | CDATATYPE | text uint8 uint16 uint32 uint64 | once |
| MESSAGE | MESSAGEPROPERTY RECEIVE_UNQUEUED_INTERNAL | SENDINGMESSAGE | ref | once |
| MESSAGE | MESSAGEPROPERTY RECEIVE_UNQUEUED_INTERNAL | INITIALVALUE | number 0 to N | maybe 0 |
| MESSAGE | MESSAGEPROPERTY RECEIVE_QUEUED_INTERNAL | SENDINGMESSAGE | ref | once |
| MESSAGE | MESSAGEPROPERTY RECEIVE_QUEUED_INTERNAL | QUEUESIZE | number 1 to 16 | once |
| MESSAGE | | NOTIFICATION | words NONE ACTIVATETASK SETEVENT COMCALLBACK FLAG | maybe NONE |
| MESSAGE | NOTIFICATION ACTIVATETASK | TASK | ref | once |
| MESSAGE | NOTIFICATION SETEVENT | TASK | ref | once |
| MESSAGE | NOTIFICATION SETEVENT | EVENT | ref | once |
| MESSAGE | NOTIFICATION COMCALLBACK | COMCALLBACKNAME | text | once |
| MESSAGE | NOTIFICATION FLAG | FLAGNAME | text | once |
`

const printedKinds = "OS APPMODE TASK ISR RESOURCE EVENT COUNTER ALARM MESSAGE"

// line is a line of the printed table.
type line struct {
	object string
	under  [2]string
	name   string
	value  []string // its words
	times  []string
}

var lines = func() []line {
	var l []line
	for text := range strings.Lines(strings.TrimSpace(printedTable)) {
		cells := strings.Split(strings.Trim(strings.TrimSpace(text), "|"), "|")
		x := line{object: strings.TrimSpace(cells[0]), name: strings.TrimSpace(cells[2]), value: strings.Fields(cells[3]), times: strings.Fields(cells[4])}
		copy(x.under[:], strings.Fields(cells[1]))
		l = append(l, x)
	}
	return l
}()

func (l line) once() bool { return l.times[0] == "once" }
func (l line) any() bool  { return l.times[0] == "any" }

// words are those that a value may be; none: there is no such list.
func (l line) words() []string {
	switch l.value[0] {
	case "bool":
		return []string{"TRUE", "FALSE"}
	case "words", "text":
		return l.value[1:]
	}
	return nil
}

func (l line) bounds() (lo, hi uint32) {
	read := func(s string) uint32 {
		switch s {
		case "M":
			return 2147483647
		case "N":
			return 4294967295
		}
		n, _ := strconv.Atoi(s)
		return uint32(n)
	}
	return read(l.value[1]), read(l.value[3])
}

func (l line) numeric() bool { return l.value[0] == "number" }
func (l line) orAuto() bool  { return l.numeric() && l.value[len(l.value)-1] == "AUTO" }

func linesAt(object string, under [2]string) []line {
	var at []line
	for _, l := range lines {
		if l.object == object && l.under == under {
			at = append(at, l)
		}
	}
	return at
}

// read tells what a value is to a line's attribute.
func (l line) read(v api.Value) (api.Entry, api.Errno) {
	e := api.Entry{Name: l.name}
	kinds := map[string]api.ValueKind{"number": api.ValueNumber, "bool": api.ValueName, "words": api.ValueName, "ref": api.ValueName, "text": api.ValueString}
	if l.orAuto() && v.Kind == api.ValueName && v.Text == "AUTO" {
		e.Auto = true
		return e, api.OK
	}
	if v.Kind != kinds[l.value[0]] || len(l.words()) > 0 && !slices.Contains(l.words(), v.Text) {
		return e, api.ErrKind
	}
	if !l.numeric() {
		e.Word = v.Text
		return e, api.OK
	}
	e.Number = v.Number
	if lo, hi := l.bounds(); v.Number < lo || v.Number > hi {
		return e, api.ErrRange
	}
	return e, api.OK
}

// told is a reading that goes on behind what is wrong: the faults in their order, of which the first one counts.
type told struct{ faults []api.Fault }

func (x *told) wrong(code api.Errno, at api.Spot, name string) {
	x.faults = append(x.faults, api.Fault{Code: code, At: at, Name: name})
}

func (x *told) entries(object string, under [2]string, l []api.Attr, at api.Spot) []api.Entry {
	stands := map[string][]api.Entry{}
	rows := linesAt(object, under)
	for _, a := range l {
		i := slices.IndexFunc(rows, func(r line) bool { return r.name == a.Name })
		if i < 0 {
			x.wrong(api.ErrAttr, a.At, a.Name)
			continue
		}
		if !rows[i].any() && len(stands[a.Name]) > 0 {
			x.wrong(api.ErrRepeated, a.At, a.Name)
		}
		e, code := rows[i].read(a.Value)
		e.At = a.At
		if code != api.OK {
			x.wrong(code, a.At, a.Name)
		}
		inner := linesAt(object, [2]string{a.Name, e.Word})
		if a.Braced && len(inner) == 0 || !a.Braced && slices.ContainsFunc(inner, line.once) {
			x.wrong(api.ErrBraces, a.At, a.Name)
		}
		if a.Braced && len(inner) > 0 {
			e.Params = x.entries(object, [2]string{a.Name, e.Word}, a.Params, a.At)
		}
		stands[a.Name] = append(stands[a.Name], e)
	}
	var all []api.Entry
	for _, r := range rows {
		all = append(all, stands[r.name]...)
		if len(stands[r.name]) == 0 && r.once() {
			x.wrong(api.ErrMissing, at, r.name)
		}
		if len(stands[r.name]) == 0 && r.times[0] == "maybe" {
			all = append(all, defaults(r))
		}
	}
	return all
}

func defaults(r line) api.Entry {
	switch d := r.times[1]; d {
	case "AUTO":
		return api.Entry{Name: r.name, Auto: true}
	case "0":
		return api.Entry{Name: r.name}
	default:
		return api.Entry{Name: r.name, Word: d}
	}
}

// asTold is what Read must answer.
func asTold(t api.Tree) (api.Sheet, api.Fault) {
	var x told
	s := api.Sheet{CPU: t.CPU}
	for _, o := range t.Objects {
		if !slices.Contains(strings.Fields(printedKinds), o.Kind) {
			x.wrong(api.ErrObject, o.At, o.Kind)
			continue
		}
		s.Items = append(s.Items, api.Item{Kind: o.Kind, Name: o.Name, At: o.At, Entries: x.entries(o.Kind, [2]string{}, o.Attrs, o.At)})
	}
	if len(x.faults) > 0 {
		return api.Sheet{}, x.faults[0]
	}
	return s, api.Fault{}
}

// follows holds Read of a tree against the second reading; it answers the code of the fault.
func follows(t *testing.T, x api.Tree) api.Errno {
	t.Helper()
	want, fault := asTold(x)
	if s, f := schema.Read(x); f != fault || !same(s, want) {
		t.Errorf("Read(%s): %s %v, not %s %v", short(x), short(s), f, short(want), fault)
	}
	return fault.Code
}
