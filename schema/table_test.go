package schema_test

import (
	"reflect"
	"slices"
	"strings"
	"testing"

	"tappet/api"
	"tappet/schema"
)

// rowOf is the row of a line of the printed table.
func rowOf(l line) api.Row {
	r := api.Row{Object: l.object, Under: l.under, Name: l.name, Words: l.words()}
	r.Want = map[string]api.Want{"number": api.WantNumber, "bool": api.WantWord, "words": api.WantWord, "ref": api.WantRef, "text": api.WantText}[l.value[0]]
	r.Times = map[string]api.Times{"once": api.Once, "maybe": api.Maybe, "any": api.Any}[l.times[0]]
	r.Lo, r.Hi = l.bounds1()
	r.Auto = l.orAuto()
	if len(l.times) > 1 {
		r.Default = l.times[1]
	}
	return r
}

// P5.1: the kinds in their order.
func TestKinds(t *testing.T) {
	want := []string{"OS", "APPMODE", "TASK", "ISR", "RESOURCE", "EVENT", "COUNTER", "ALARM", "MESSAGE"}
	if l := schema.Kinds(); !slices.Equal(l, want) || !slices.Equal(l, strings.Fields(printedKinds)) {
		t.Error(l)
	}
}

// P5.1: the table row by row.
func TestRows(t *testing.T) {
	rows := schema.Rows()
	if len(rows) != 49 || len(lines) != 49 {
		t.Fatal(len(rows), "rows,", len(lines), "lines")
	}
	for i, l := range lines {
		got, want := rows[i], rowOf(l)
		got.Words, want.Words = append([]string{}, got.Words...), append([]string{}, want.Words...)
		if !reflect.DeepEqual(got, want) {
			t.Errorf("row %d is %+v, not %+v", i, got, want)
		}
	}
}

// P5.1: rows of each sort, field by field.
func TestRowsOfEachSort(t *testing.T) {
	rows := schema.Rows()
	for i, want := range map[int]api.Row{
		0:  {Object: "OS", Name: "STATUS", Want: api.WantWord, Words: []string{"STANDARD", "EXTENDED"}, Times: api.Maybe, Default: "EXTENDED"},
		8:  {Object: "OS", Name: "USERESSCHEDULER", Want: api.WantWord, Words: []string{"TRUE", "FALSE"}, Times: api.Maybe, Default: "TRUE"},
		11: {Object: "TASK", Name: "ACTIVATION", Want: api.WantNumber, Lo: 1, Hi: 255, Times: api.Once},
		13: {Object: "TASK", Under: [2]string{"AUTOSTART", "TRUE"}, Name: "APPMODE", Want: api.WantRef, Times: api.Any},
		23: {Object: "EVENT", Name: "MASK", Want: api.WantNumber, Lo: 1, Hi: 4294967295, Auto: true, Times: api.Maybe, Default: "AUTO"},
		24: {Object: "COUNTER", Name: "MAXALLOWEDVALUE", Want: api.WantNumber, Lo: 1, Hi: 2147483647, Times: api.Once},
		38: {Object: "MESSAGE", Under: [2]string{"MESSAGEPROPERTY", "SEND_STATIC_INTERNAL"}, Name: "CDATATYPE", Want: api.WantText, Words: []string{"uint8", "uint16", "uint32", "uint64"}, Times: api.Once},
		40: {Object: "MESSAGE", Under: [2]string{"MESSAGEPROPERTY", "RECEIVE_UNQUEUED_INTERNAL"}, Name: "INITIALVALUE", Want: api.WantNumber, Hi: 4294967295, Times: api.Maybe, Default: "0"},
		48: {Object: "MESSAGE", Under: [2]string{"NOTIFICATION", "FLAG"}, Name: "FLAGNAME", Want: api.WantText, Times: api.Once},
	} {
		if got := rows[i]; !reflect.DeepEqual(got, want) {
			t.Errorf("row %d is %+v, not %+v", i, got, want)
		}
	}
}

// R3: the kinds and the rows are the caller's own, each list of them.
func TestKindsAndRowsAreTheCallersOwn(t *testing.T) {
	kinds, rows := schema.Kinds(), schema.Rows()
	clear(kinds)
	for i := range rows {
		clear(rows[i].Words)
		_ = append(rows[i].Words, "more")
	}
	for i, r := range rows {
		for j := range r.Words {
			if r.Words[j] != "" {
				t.Error("row", i, "has", r.Words)
			}
			r.Words[j] = "turned"
			for k, q := range rows[i+1:] {
				if slices.Contains(q.Words, "turned") {
					t.Error("rows", i, "and", i+1+k, "share their words")
				}
			}
		}
	}
	clear(rows)
	TestKinds(t)
	TestRows(t)
	takes(t, holding(object("OS"), object("TASK", least("TASK", [2]string{}, [2]string{})...)))
}
