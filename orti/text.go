package orti

import (
	"strconv"
	"strings"

	"tappet/api"
	"tappet/octet"
)

// noTask is the number of a task that is none.
const noTask = 4294967295

// What stands ahead of the line that lists the tasks, and what behind it, up to the first object.
const (
	headAbove = `VERSION {
  KOIL = "2.2";
  OSSEMANTICS = "ORTI", "2.2";
};
IMPLEMENTATION tappet {
  OS {
`
	headBelow = `  };
  TASK {
    UINT8 PRIORITY;
    ENUM UINT8 [ "RUNNING" = 0, "WAITING" = 1, "READY" = 2, "SUSPENDED" = 3 ] STATE;
    UINT8 ACTIVATIONS;
    STRING KIND;
  };
  RESOURCE {
    UINT8 CEILING;
    STRING LOCKER;
  };
  ALARM {
    STRING COUNTER;
    STRING ACTION;
    UINT32 ALARMTIME;
    UINT32 CYCLETIME;
  };
  ISR {
    UINT8 CATEGORY;
    UINT8 PRIORITY;
    UINT8 REQUESTED;
  };
};
`
)

func writeHead(b *strings.Builder, tasks []api.OrtiTask) {
	b.WriteString(headAbove)
	b.WriteString("    ENUM UINT32 [ " + item("NO_TASK", noTask))
	for i, t := range tasks {
		b.WriteString(", " + item(t.Name, uint64(i)))
	}
	b.WriteString(" ] RUNNINGTASK;\n")
	b.WriteString(headBelow)
}

func item(name string, number uint64) string { return `"` + name + `" = ` + octet.Decimal(number) }

// form is how an object stands in the text: its kind's word, and its attributes.
type form struct {
	word  string
	attrs []string
}

// What stands around an object's name and around what an attribute is set to, and an object's last line.
const (
	opens  = " {"
	equals = ` = "`
	closes = `";`
	ends   = "};"
)

func attrOpens(attr string) string { return "  " + attr + equals }

func (f form) write(b *strings.Builder, name string, values ...string) {
	b.WriteString(f.word + " " + name + opens + "\n")
	for i, v := range values {
		b.WriteString(attrOpens(f.attrs[i]) + v + closes + "\n")
	}
	b.WriteString(ends + "\n")
}

// kind is a kind of thing in the text: its form; what stands there of the thing with that number; the thing of which that stands there.
type kind[T any] struct {
	form
	tell  func(i int, t T) (name string, values []string)
	thing func(name string, values []string) (T, bool)
}

func writeAll[T any](b *strings.Builder, k kind[T], things []T) {
	for i, t := range things {
		name, values := k.tell(i, t)
		k.write(b, name, values...)
	}
}

// asks is an expression with a number.
func asks(word string, i int) string { return word + "[" + strconv.Itoa(i) + "]" }
