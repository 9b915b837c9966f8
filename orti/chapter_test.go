package orti_test

import (
	"fmt"
	"math/big"
	"regexp"
	"slices"
	"strconv"
	"strings"

	"tappet/api"
	"tappet/class"
)

// This file reads the chapter a second time, in other ways than the package does.

// factsOf is P11.1, with ceilings reckoned by going from each resource to each other one.
func factsOf(c api.Config) (api.Orti, api.Errno) {
	if class.Check(c) != (api.Verdict{}) {
		return api.Orti{}, api.ErrArg
	}
	o := api.Orti{OS: c.OS.Name}
	top := -1
	for _, t := range c.Tasks {
		top = max(top, t.Priority)
		o.Tasks = append(o.Tasks, api.OrtiTask{Name: t.Name, Extended: len(t.Events) != 0})
	}
	for id, r := range c.Resources {
		o.Resources = append(o.Resources, api.OrtiResource{Name: r.Name, Ceiling: ceilingOf(c, id)})
	}
	if c.OS.Schedule {
		o.Resources = append(o.Resources, api.OrtiResource{Name: "RES_SCHEDULER", Ceiling: top})
	}
	for _, a := range c.Alarms {
		x := api.OrtiAlarm{Name: a.Name, Counter: c.Counters[a.Counter].Name}
		x.Action = map[api.ActionKind]string{
			api.ActTask:     "ACTIVATETASK " + c.Tasks[a.Action.Task].Name,
			api.ActCallback: "ALARMCALLBACK " + a.Action.Name,
		}[a.Action.Kind]
		if a.Action.Kind == api.ActEvent {
			x.Action = fmt.Sprintf("SETEVENT %s %s", c.Tasks[a.Action.Task].Name, c.Events[a.Action.Event].Name)
		}
		o.Alarms = append(o.Alarms, x)
	}
	for _, i := range c.Isrs {
		o.Isrs = append(o.Isrs, api.OrtiIsr{Name: i.Name, Category: i.Category, Priority: i.Priority})
	}
	return o, api.OK
}

func endOf(c api.Config, id int) int {
	for c.Resources[id].Kind == api.ResLinked {
		id = c.Resources[id].Link
	}
	return id
}

func ceilingOf(c api.Config, id int) int {
	ceiling := -1
	look := func(priority int, resources []int) {
		for _, r := range resources {
			if endOf(c, r) == endOf(c, id) {
				ceiling = max(ceiling, priority)
			}
		}
	}
	for _, t := range c.Tasks {
		look(t.Priority, t.Resources)
	}
	for _, i := range c.Isrs {
		look(i.Priority, i.Resources)
	}
	return ceiling
}

const aName = `[A-Za-z_][0-9A-Za-z_]{0,62}`

var (
	wholeName   = regexp.MustCompile(`\A` + aName + `\z`)
	wholeAction = regexp.MustCompile(`\A(ACTIVATETASK|ALARMCALLBACK|SETEVENT ` + aName + `) ` + aName + `\z`)
)

// textOf is P11.2.
func textOf(o api.Orti) (string, api.Errno) {
	ok := wholeName.MatchString(o.OS)
	listed := `"NO_TASK" = 4294967295`
	var objects []string
	for i, t := range o.Tasks {
		ok = ok && wholeName.MatchString(t.Name)
		listed += fmt.Sprintf(`, "%s" = %d`, t.Name, i)
		kind := map[bool]string{true: "EXTENDED", false: "BASIC"}[t.Extended]
		objects = append(objects, fmt.Sprintf("TASK %s {\n  PRIORITY = \"$priority[%d]\";\n  STATE = \"$state[%[2]d]\";\n  ACTIVATIONS = \"$active[%[2]d]\";\n  KIND = \"%s\";\n};\n", t.Name, i, kind))
	}
	for i, r := range o.Resources {
		ok = ok && wholeName.MatchString(r.Name) && r.Ceiling > -2 && r.Ceiling < 128
		objects = append(objects, fmt.Sprintf("RESOURCE %s {\n  CEILING = \"%d\";\n  LOCKER = \"$locker[%d]\";\n};\n", r.Name, r.Ceiling, i))
	}
	for i, a := range o.Alarms {
		ok = ok && wholeName.MatchString(a.Name) && wholeName.MatchString(a.Counter) && wholeAction.MatchString(a.Action)
		objects = append(objects, fmt.Sprintf("ALARM %s {\n  COUNTER = \"%s\";\n  ACTION = \"%s\";\n  ALARMTIME = \"$left[%d]\";\n  CYCLETIME = \"$cycle[%[4]d]\";\n};\n", a.Name, a.Counter, a.Action, i))
	}
	for i, x := range o.Isrs {
		ok = ok && wholeName.MatchString(x.Name) && (x.Category == 1 || x.Category == 2) && x.Priority > 63 && x.Priority < 128
		objects = append(objects, fmt.Sprintf("ISR %s {\n  CATEGORY = \"%d\";\n  PRIORITY = \"%d\";\n  REQUESTED = \"$requested[%d]\";\n};\n", x.Name, x.Category, x.Priority, i))
	}
	if !ok {
		return "", api.ErrOrti
	}
	return head(o.OS, listed) + strings.Join(objects, ""), api.OK
}

const (
	aTask     = "TASK (" + aName + `) {\n  PRIORITY = "\$priority\[(\d+)\]";\n  STATE = "\$state\[(\d+)\]";\n  ACTIVATIONS = "\$active\[(\d+)\]";\n  KIND = "(EXTENDED|BASIC)";\n};\n`
	aResource = "RESOURCE (" + aName + `) {\n  CEILING = "(-1|0|[1-9]\d?|1[01]\d|12[0-7])";\n  LOCKER = "\$locker\[(\d+)\]";\n};\n`
	anAlarm   = "ALARM (" + aName + `) {\n  COUNTER = "(` + aName + `)";\n  ACTION = "((?:ACTIVATETASK|ALARMCALLBACK|SETEVENT ` + aName + ") " + aName + `)";\n  ALARMTIME = "\$left\[(\d+)\]";\n  CYCLETIME = "\$cycle\[(\d+)\]";\n};\n`
	anIsr     = "ISR (" + aName + `) {\n  CATEGORY = "([12])";\n  PRIORITY = "(6[4-9]|[7-9]\d|1[01]\d|12[0-7])";\n  REQUESTED = "\$requested\[(\d+)\]";\n};\n`
)

var (
	objectRows = []*regexp.Regexp{regexp.MustCompile(aTask), regexp.MustCompile(aResource), regexp.MustCompile(anAlarm), regexp.MustCompile(anIsr)}
	wholeText  = regexp.MustCompile(`\A(?:` + aTask + ")*(?:" + aResource + ")*(?:" + anAlarm + ")*(?:" + anIsr + `)*\z`)
	wholeHead  = regexp.MustCompile(`(?s)\A.*?ENUM UINT32 \[ (.*?) \] RUNNINGTASK;.*?\nOS (` + aName + `) {\n  RUNNINGTASK = "\$running";\n};\n`)
)

// factsIn is P11.3: what stands in the text where, and then whether all else is so that it must be.
func factsIn(text string) (api.Orti, api.Errno) {
	m := wholeHead.FindStringSubmatch(text)
	if m == nil || m[0] != head(m[2], m[1]) || !wholeText.MatchString(text[len(m[0]):]) {
		return api.Orti{}, api.ErrOrti
	}
	listed := []string{`"NO_TASK" = 4294967295`}
	o := api.Orti{OS: m[2]}
	body := text[len(m[0]):]
	for kind, r := range objectRows {
		for i, x := range r.FindAllStringSubmatch(body, -1) {
			own := strconv.Itoa(i)
			var asked []string
			switch kind {
			case 0:
				asked = x[2:5]
				listed = append(listed, `"`+x[1]+`" = `+own)
				o.Tasks = append(o.Tasks, api.OrtiTask{Name: x[1], Extended: x[5] == "EXTENDED"})
			case 1:
				asked = x[3:]
				o.Resources = append(o.Resources, api.OrtiResource{Name: x[1], Ceiling: atoi(x[2])})
			case 2:
				asked = x[4:]
				o.Alarms = append(o.Alarms, api.OrtiAlarm{Name: x[1], Counter: x[2], Action: x[3]})
			case 3:
				asked = x[4:]
				o.Isrs = append(o.Isrs, api.OrtiIsr{Name: x[1], Category: atoi(x[2]), Priority: atoi(x[3])})
			}
			if slices.ContainsFunc(asked, func(s string) bool { return s != own }) {
				return api.Orti{}, api.ErrOrti
			}
		}
	}
	if strings.Join(listed, ", ") != m[1] {
		return api.Orti{}, api.ErrOrti
	}
	return o, api.OK
}

func atoi(s string) int {
	n, err := strconv.Atoi(s)
	if err != nil {
		panic(err)
	}
	return n
}

var (
	ownValue = regexp.MustCompile(`\A(0|[1-9][0-9]*)\z`)
	numbered = regexp.MustCompile(`\A\$([a-z]+)\[(0|[1-9][0-9]*)\]\z`)
)

// valueOf is P11.4.
func valueOf(o api.Orti, expr string, l api.Look) (string, api.Errno) {
	if n, ok := new(big.Int).SetString(expr, 10); ok && ownValue.MatchString(expr) && n.BitLen() <= 64 || expr == "-1" {
		return expr, api.OK
	}
	if expr == "$running" {
		for _, f := range l.Frames {
			if f.Kind == api.FTask {
				return fmt.Sprint(f.ID), api.OK
			}
			break
		}
		return "4294967295", api.OK
	}
	m := numbered.FindStringSubmatch(expr)
	if m == nil {
		return "", api.ErrExpr
	}
	things, listed := map[string]int{}, map[string]int{}
	for _, w := range []string{"state", "priority", "active"} {
		things[w], listed[w] = len(o.Tasks), len(l.Tasks)
	}
	for _, w := range []string{"left", "cycle"} {
		things[w], listed[w] = len(o.Alarms), len(l.Alarms)
	}
	things["locker"], listed["locker"] = len(o.Resources), len(o.Resources)
	things["requested"], listed["requested"] = len(o.Isrs), len(o.Isrs)
	n, _ := new(big.Int).SetString(m[2], 10)
	if n.Cmp(big.NewInt(int64(things[m[1]]))) >= 0 || things[m[1]] != listed[m[1]] {
		return "", api.ErrExpr
	}
	return valueAt(o, l, m[1], int(n.Int64())), api.OK
}

func valueAt(o api.Orti, l api.Look, word string, i int) string {
	switch word {
	case "state":
		return fmt.Sprintf("%d", l.Tasks[i].State)
	case "priority":
		return fmt.Sprintf("%d", l.Tasks[i].Priority)
	case "active":
		return fmt.Sprintf("%d", l.Tasks[i].Active)
	case "left":
		return fmt.Sprintf("%d", l.Alarms[i].Left)
	case "cycle":
		return fmt.Sprintf("%d", l.Alarms[i].Cycle)
	case "requested":
		for _, id := range l.Requested {
			if id == i {
				return "1"
			}
		}
		return "0"
	}
	for id, t := range l.Tasks {
		for _, r := range t.Held {
			if r == i && id < len(o.Tasks) {
				return "TASK " + o.Tasks[id].Name
			} else if r == i {
				return "NOBODY"
			}
		}
	}
	for id, held := range l.Held {
		for _, r := range held {
			if r == i && id < len(o.Isrs) {
				return "ISR " + o.Isrs[id].Name
			} else if r == i {
				return "NOBODY"
			}
		}
	}
	return "NOBODY"
}
