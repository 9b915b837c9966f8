package class_test

import (
	"math/big"
	"slices"

	"tappet/api"
)

// A second reading of the chapter: all that is not so with a configuration, in P7.1's order, gone through to the end, whatever is wrong ahead.

// book collects verdicts.
type book struct {
	c    api.Config
	kind string
	id   int
	list []api.Verdict
}

// must notes a verdict, if something is not so.
func (b *book) must(code api.Errno, so bool) {
	if !so {
		b.list = append(b.list, api.Verdict{Code: code, Kind: b.kind, ID: b.id})
	}
}

// at is the thing of a list with an id; the zero one, if there is none.
func at[T any](l []T, id int) T {
	if id < 0 || id >= len(l) {
		var none T
		return none
	}
	return l[id]
}

func has[T any](l []T, id int) bool { return id >= 0 && id < len(l) }

// called tells whether a text is a name, byte by byte.
func called(s string) bool {
	const letters = "ABCDEFGHIJKLMNOPQRSTUVWXYZabcdefghijklmnopqrstuvwxyz_"
	if len(s) == 0 || len(s) > 63 {
		return false
	}
	for i := range len(s) {
		if !slices.Contains([]byte(letters), s[i]) && (i == 0 || !slices.Contains([]byte("0123456789"), s[i])) {
			return false
		}
	}
	return true
}

// rising tells whether a list is that of some of the ids of a list, sorted, each once.
func rising[T any](ids []int, l []T) bool {
	sorted := slices.Compact(slices.Sorted(slices.Values(ids)))
	return slices.Equal(sorted, ids) && (len(ids) == 0 || has(l, ids[0]) && has(l, ids[len(ids)-1]))
}

// objects goes through the objects of a kind: how many there are, their names, and what else is said of each.
func objects[T any](b *book, kind string, l []T, least, most int, name func(T) string, each func(T)) {
	b.kind, b.id = kind, 0
	b.must(api.ErrOver, len(l) >= least && len(l) <= most)
	for id, x := range l {
		b.id = id
		b.must(api.ErrNames, called(name(x)))
		for _, ahead := range l[:id] {
			b.must(api.ErrNames, name(ahead) != name(x))
		}
		each(x)
	}
}

// end is where going from a resource ends; -1: nowhere.
func end(c api.Config, id int) int {
	var met []int
	for !slices.Contains(met, id) {
		if !has(c.Resources, id) {
			return -1
		}
		if at(c.Resources, id).Kind != api.ResLinked {
			return id
		}
		met = append(met, id)
		id = c.Resources[id].Link
	}
	return -1
}

func (b *book) resource(x api.Resource) {
	linked := x.Kind == api.ResLinked
	b.must(api.ErrValue, linked || x.Kind == api.ResStandard || x.Kind == api.ResInternal)
	b.must(api.ErrValue, linked || x.Link == 0)
	b.must(api.ErrRef, !linked || has(b.c.Resources, x.Link))
	b.must(api.ErrRule, !linked || at(b.c.Resources, end(b.c, b.id)).Kind == api.ResStandard)
}

func (b *book) internals(ids []int) int {
	n := 0
	for _, id := range ids {
		if at(b.c.Resources, id).Kind == api.ResInternal {
			n++
		}
	}
	return n
}

func (b *book) task(x api.Task) {
	c := b.c
	b.must(api.ErrValue, x.Priority >= 0 && x.Priority <= 63)
	b.must(api.ErrValue, x.Activation >= 1 && x.Activation <= 255)
	b.must(api.ErrRef, rising(x.Auto, c.Modes) && rising(x.Resources, c.Resources) && rising(x.Events, c.Events) && rising(x.Messages, c.Messages))
	b.must(api.ErrOver, len(x.Events) <= 32)
	b.must(api.ErrRule, len(x.Events) == 0 || x.Activation == 1)
	b.must(api.ErrRule, b.internals(x.Resources) < 2)
	for i, e := range x.Events {
		for _, f := range x.Events[:i] {
			b.must(api.ErrRule, at(c.Events, e).Mask&at(c.Events, f).Mask == 0)
		}
	}
}

func (b *book) counter(x api.Counter) {
	for _, v := range []uint32{x.Max, x.Base, x.Min} {
		b.must(api.ErrValue, v >= 1 && v <= 2147483647)
	}
	b.must(api.ErrValue, x.Min <= x.Max)
}

func (b *book) action(a api.Action, kinds ...api.ActionKind) {
	b.must(api.ErrValue, slices.Contains(kinds, a.Kind))
	bare := a
	switch a.Kind {
	case api.ActEvent:
		bare.Task, bare.Event = 0, 0
	case api.ActTask:
		bare.Task = 0
	case api.ActCallback, api.ActFlag:
		bare.Name = ""
	}
	b.must(api.ErrValue, bare == api.Action{Kind: a.Kind})
	switch a.Kind {
	case api.ActEvent:
		b.must(api.ErrRef, has(b.c.Tasks, a.Task) && has(b.c.Events, a.Event))
		b.must(api.ErrRule, slices.Contains(at(b.c.Tasks, a.Task).Events, a.Event))
	case api.ActTask:
		b.must(api.ErrRef, has(b.c.Tasks, a.Task))
	case api.ActCallback, api.ActFlag:
		b.must(api.ErrNames, called(a.Name))
	}
}

func (b *book) alarm(x api.Alarm) {
	b.must(api.ErrRef, has(b.c.Counters, x.Counter))
	b.action(x.Action, 1, 2, 3)
	b.must(api.ErrRef, rising(x.Auto, b.c.Modes))
	k := at(b.c.Counters, x.Counter)
	if len(x.Auto) == 0 {
		b.must(api.ErrValue, x.Time == 0 && x.Cycle == 0)
	} else {
		b.must(api.ErrValue, x.Time >= 1 && x.Time <= k.Max)
		b.must(api.ErrValue, x.Cycle == 0 || x.Cycle >= k.Min && x.Cycle <= k.Max)
	}
}

func (b *book) isr(x api.Isr) {
	b.must(api.ErrValue, x.Category == 1 || x.Category == 2)
	b.must(api.ErrValue, x.Priority >= 64 && x.Priority <= 127)
	b.must(api.ErrRef, rising(x.Resources, b.c.Resources) && rising(x.Messages, b.c.Messages))
	b.must(api.ErrRule, b.internals(x.Resources) == 0)
	b.must(api.ErrRule, x.Category != 1 || len(x.Resources)+len(x.Messages) == 0)
	for _, y := range b.c.Isrs[:b.id] {
		b.must(api.ErrRule, y.Priority != x.Priority)
		b.must(api.ErrRule, !(y.Category > x.Category && y.Priority > x.Priority))
		b.must(api.ErrRule, !(y.Category < x.Category && y.Priority < x.Priority))
	}
}

func (b *book) message(x api.Message) {
	sent, unqueued, queued := x.Kind == api.MsgSend, x.Kind == api.MsgUnqueued, x.Kind == api.MsgQueued
	received := unqueued || queued
	b.must(api.ErrValue, sent || received)
	b.must(api.ErrValue, !sent || slices.Contains([]int{1, 2, 4, 8}, x.Length))
	b.must(api.ErrValue, !sent || x.From == 0 && x.Init == 0 && x.Queue == 0)
	b.must(api.ErrValue, !received || x.Length == 0)
	b.must(api.ErrValue, !unqueued || x.Queue == 0)
	b.must(api.ErrValue, !queued || x.Init == 0 && x.Queue >= 1 && x.Queue <= 16)
	from := at(b.c.Messages, x.From)
	b.must(api.ErrRef, !received || from.Kind == api.MsgSend)
	b.must(api.ErrValue, x.Init <= 4294967295)
	if received && from.Length >= 0 && from.Length <= 7 {
		power := new(big.Int).Exp(big.NewInt(256), big.NewInt(int64(from.Length)), nil)
		b.must(api.ErrValue, new(big.Int).SetUint64(x.Init).Cmp(power) < 0)
	}
	if sent {
		b.must(api.ErrValue, x.Action == api.Action{})
	} else {
		b.action(x.Action, 0, 1, 2, 3, 4)
	}
}

// verdictsOf are the verdicts on a configuration, in order.
func verdictsOf(c api.Config) []api.Verdict {
	b := &book{c: c}
	itself := func(s string) string { return s }
	objects(b, "CPU", []string{c.CPU}, 1, 1, itself, func(string) {})
	objects(b, "OS", []string{c.OS.Name}, 1, 1, itself, func(string) {})
	objects(b, "APPMODE", c.Modes, 1, 8, itself, func(string) {})
	objects(b, "RESOURCE", c.Resources, 0, 64, func(x api.Resource) string { return x.Name }, b.resource)
	objects(b, "EVENT", c.Events, 0, 256, func(x api.Event) string { return x.Name }, func(x api.Event) { b.must(api.ErrValue, x.Mask > 0) })
	objects(b, "TASK", c.Tasks, 1, 256, func(x api.Task) string { return x.Name }, b.task)
	objects(b, "COUNTER", c.Counters, 0, 16, func(x api.Counter) string { return x.Name }, b.counter)
	objects(b, "ALARM", c.Alarms, 0, 64, func(x api.Alarm) string { return x.Name }, b.alarm)
	objects(b, "ISR", c.Isrs, 0, 32, func(x api.Isr) string { return x.Name }, b.isr)
	objects(b, "MESSAGE", c.Messages, 0, 64, func(x api.Message) string { return x.Name }, b.message)
	return b.list
}

// asTold is what Check must answer.
func asTold(c api.Config) api.Verdict { return at(verdictsOf(c), 0) }

// classOf is what Class must answer of a configuration that may be.
func classOf(c api.Config) api.Class {
	extended, plain := false, true
	for i, x := range c.Tasks {
		extended = extended || len(x.Events) > 0
		plain = plain && x.Activation == 1
		for _, y := range c.Tasks[:i] {
			plain = plain && x.Priority != y.Priority
		}
	}
	if extended {
		return map[bool]api.Class{true: api.ECC1, false: api.ECC2}[plain]
	}
	return map[bool]api.Class{true: api.BCC1, false: api.BCC2}[plain]
}
