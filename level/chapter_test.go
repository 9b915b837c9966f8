package level_test

import (
	"strconv"
	"strings"
	"testing"

	"tappet/api"
)

// A second reading of the chapter: its table and its lists as they are printed there.

const printedTable = `
| number | name | parameters | task | isr1 | isr2 | error | pre | post | startup | shutdown | callback |
| 1 | StartOS | 1 |  |  |  |  |  |  |  |  |  |
| 2 | ShutdownOS | 1 | x |  | x | x |  |  | x |  |  |
| 3 | GetActiveApplicationMode | 0 | x |  | x | x | x | x | x | x |  |
| 4 | ActivateTask | 1 | x |  | x |  |  |  |  |  |  |
| 5 | TerminateTask | 0 | x |  |  |  |  |  |  |  |  |
| 6 | ChainTask | 1 | x |  |  |  |  |  |  |  |  |
| 7 | Schedule | 0 | x |  |  |  |  |  |  |  |  |
| 8 | GetTaskID | 0 | x |  | x | x | x | x |  |  |  |
| 9 | GetTaskState | 1 | x |  | x | x | x | x |  |  |  |
| 10 | EnableAllInterrupts | 0 | x | x | x |  |  |  |  |  |  |
| 11 | DisableAllInterrupts | 0 | x | x | x |  |  |  |  |  |  |
| 12 | ResumeAllInterrupts | 0 | x | x | x | x | x | x |  |  | x |
| 13 | SuspendAllInterrupts | 0 | x | x | x | x | x | x |  |  | x |
| 14 | ResumeOSInterrupts | 0 | x | x | x |  |  |  |  |  |  |
| 15 | SuspendOSInterrupts | 0 | x | x | x |  |  |  |  |  |  |
| 16 | GetResource | 1 | x |  | x |  |  |  |  |  |  |
| 17 | ReleaseResource | 1 | x |  | x |  |  |  |  |  |  |
| 18 | SetEvent | 2 | x |  | x |  |  |  |  |  |  |
| 19 | ClearEvent | 1 | x |  |  |  |  |  |  |  |  |
| 20 | GetEvent | 1 | x |  | x | x | x | x |  |  |  |
| 21 | WaitEvent | 1 | x |  |  |  |  |  |  |  |  |
| 22 | GetAlarmBase | 1 | x |  | x | x | x | x |  |  |  |
| 23 | GetAlarm | 1 | x |  | x | x | x | x |  |  |  |
| 24 | SetRelAlarm | 3 | x |  | x |  |  |  |  |  |  |
| 25 | SetAbsAlarm | 3 | x |  | x |  |  |  |  |  |  |
| 26 | CancelAlarm | 1 | x |  | x |  |  |  |  |  |  |
| 40 | SendMessage | 2 | x |  | x |  |  |  |  |  | x |
| 41 | ReceiveMessage | 1 | x |  | x |  |  |  |  |  | x |
| 42 | GetMessageStatus | 1 | x |  | x | x | x | x |  |  | x |
| 43 | InitMessage | 2 | x |  | x |  |  |  |  |  | x |
| 44 | ReadFlag | 1 | x | x | x |  |  |  |  |  | x |
| 45 | ResetFlag | 1 | x | x | x |  |  |  |  |  | x |
`

const (
	printedStatuses = "0 E_OK, 1 E_OS_ACCESS, 2 E_OS_CALLEVEL, 3 E_OS_ID, 4 E_OS_LIMIT, 5 E_OS_NOFUNC, 6 E_OS_RESOURCE, 7 E_OS_STATE, 8 E_OS_VALUE, 9 E_OS_MISSINGEND, 10 E_OS_DISABLEDINT, 33 E_COM_ID, 34 E_COM_LENGTH, 35 E_COM_LIMIT, 36 E_COM_NOMSG"
	printedContexts = "1 TASK, 2 ISR, 3 STARTUP, 4 ERROR, 5 SHUTDOWN, 6 PRE, 7 POST, 8 CALLBACK"
	printedStates   = "0 RUNNING, 1 WAITING, 2 READY, 3 SUSPENDED"
)

// columns are the levels in the order of the table's columns.
var columns = []string{"task", "isr1", "isr2", "error", "pre", "post", "startup", "shutdown", "callback"}

// printed is a row of the table.
type printed struct {
	number int
	name   string
	params int
	at     map[api.Level]bool // where the table has an x
}

func number(t *testing.T, s string) int {
	t.Helper()
	n, err := strconv.Atoi(s)
	if err != nil {
		t.Fatal(err)
	}
	return n
}

// cells cuts a line of the table.
func cells(line string) []string {
	l := strings.Split(strings.Trim(line, "|"), "|")
	for i := range l {
		l[i] = strings.TrimSpace(l[i])
	}
	return l
}

// table reads the printed table.
func table(t *testing.T) []printed {
	t.Helper()
	lines := strings.Split(strings.TrimSpace(printedTable), "\n")
	if head := cells(lines[0]); strings.Join(head[3:], " ") != strings.Join(columns, " ") {
		t.Fatal("head:", head)
	}
	var rows []printed
	for _, line := range lines[1:] {
		l := cells(line)
		if len(l) != 3+len(columns) {
			t.Fatal("row:", line)
		}
		row := printed{number(t, l[0]), l[1], number(t, l[2]), map[api.Level]bool{}}
		for i, mark := range l[3:] {
			if mark == "x" {
				row.at[api.Level(i+1)] = true
			}
		}
		rows = append(rows, row)
	}
	return rows
}

// byNumber are the rows of the table by their numbers.
func byNumber(t *testing.T) map[int]printed {
	t.Helper()
	m := map[int]printed{}
	for _, row := range table(t) {
		m[row.number] = row
	}
	return m
}

// listed reads one of the printed lists: names by their numbers.
func listed(t *testing.T, list string) map[int]string {
	t.Helper()
	m := map[int]string{}
	for _, entry := range strings.Split(list, ", ") {
		n, name, ok := strings.Cut(entry, " ")
		if !ok {
			t.Fatal("entry:", entry)
		}
		m[number(t, n)] = name
	}
	return m
}
