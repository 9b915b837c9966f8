package level_test

import (
	"slices"
	"sync"
	"testing"

	"tappet/api"
	"tappet/level"
)

// P17.1: the numbers of the table, rising, each once.
func TestServices(t *testing.T) {
	var want []int
	for _, row := range table(t) {
		want = append(want, row.number)
	}
	if l := level.Services(); !slices.Equal(l, want) || len(l) != 32 {
		t.Error("Services:", l)
	}
	if l := level.Services(); !slices.IsSorted(l) || len(slices.Compact(l)) != 32 {
		t.Error("not rising:", l)
	}
}

// R3: what Services answers is the caller's own.
func TestServicesAreNew(t *testing.T) {
	want := level.Services()
	l := level.Services()
	clear(l)
	_ = append(l[:3], 99)
	if again := level.Services(); !slices.Equal(again, want) {
		t.Error("changed:", again)
	}
	if level.Name(4) != "ActivateTask" || level.Params(4) != 1 || level.Name(99) != "" {
		t.Error("what Services answered is looked at")
	}
}

// P17.1: of every number its name and its parameters.
func TestNameAndParams(t *testing.T) {
	rows := byNumber(t)
	for _, n := range figures() {
		name, params := "", -1
		if row, there := rows[n]; there {
			name, params = row.name, row.params
		}
		if got := level.Name(n); got != name {
			t.Errorf("Name(%d): %q, not %q", n, got, name)
		}
		if got := level.Params(n); got != params {
			t.Errorf("Params(%d): %d, not %d", n, got, params)
		}
	}
}

// P17.1: api's names of services are those numbers.
func TestNumbersOfApi(t *testing.T) {
	for n, name := range map[int]string{
		api.SvStartOS: "StartOS", api.SvShutdownOS: "ShutdownOS", api.SvGetActiveApplicationMode: "GetActiveApplicationMode",
		api.SvActivateTask: "ActivateTask", api.SvTerminateTask: "TerminateTask", api.SvChainTask: "ChainTask", api.SvSchedule: "Schedule",
		api.SvGetTaskID: "GetTaskID", api.SvGetTaskState: "GetTaskState",
		api.SvEnableAllInterrupts: "EnableAllInterrupts", api.SvDisableAllInterrupts: "DisableAllInterrupts",
		api.SvResumeAllInterrupts: "ResumeAllInterrupts", api.SvSuspendAllInterrupts: "SuspendAllInterrupts",
		api.SvResumeOSInterrupts: "ResumeOSInterrupts", api.SvSuspendOSInterrupts: "SuspendOSInterrupts",
		api.SvGetResource: "GetResource", api.SvReleaseResource: "ReleaseResource",
		api.SvSetEvent: "SetEvent", api.SvClearEvent: "ClearEvent", api.SvGetEvent: "GetEvent", api.SvWaitEvent: "WaitEvent",
		api.SvGetAlarmBase: "GetAlarmBase", api.SvGetAlarm: "GetAlarm", api.SvSetRelAlarm: "SetRelAlarm", api.SvSetAbsAlarm: "SetAbsAlarm", api.SvCancelAlarm: "CancelAlarm",
		api.SvSendMessage: "SendMessage", api.SvReceiveMessage: "ReceiveMessage", api.SvGetMessageStatus: "GetMessageStatus", api.SvInitMessage: "InitMessage",
		api.SvReadFlag: "ReadFlag", api.SvResetFlag: "ResetFlag",
	} {
		if got, ok := level.Number(name); got != n || !ok {
			t.Errorf("Number(%s): %d %v, not %d", name, got, ok, n)
		}
		if got := level.Name(n); got != name {
			t.Errorf("Name(%d): %q, not %q", n, got, name)
		}
	}
}

// P17.1: a name is taken letter for letter, and nothing else is one.
func TestNumber(t *testing.T) {
	want := map[string]int{}
	var tried []string
	for _, row := range table(t) {
		want[row.name] = row.number
		tried = append(append(tried, row.name), nearly(row.name)...)
	}
	for _, name := range listed(t, printedStatuses) {
		tried = append(append(tried, name), nearly(name)...)
	}
	for _, name := range append(tried, strangers()...) {
		n, there := want[name]
		if got, ok := level.Number(name); got != n || ok != there {
			t.Errorf("Number(%q): %d %v, not %d %v", name, got, ok, n, there)
		}
	}
}

// P17.2: the level of every context; the category of ISRs alone is looked at.
func TestOf(t *testing.T) {
	want := map[int]api.Level{
		1: api.LevelTask, 3: api.LevelStartup, 4: api.LevelError, 5: api.LevelShutdown, 6: api.LevelPre, 7: api.LevelPost, 8: api.LevelCallback,
	}
	isrs := map[int]api.Level{1: api.LevelIsr1, 2: api.LevelIsr2}
	for _, kind := range figures() {
		for _, category := range []int{-1 << 62, -2, -1, 0, 1, 2, 3, 4, 9, 1<<8 + 1, 1<<32 + 2, 1<<62 + 1} {
			l := want[kind]
			if kind == 2 {
				l = isrs[category]
			}
			if got := level.Of(api.FrameKind(kind), category); got != l {
				t.Errorf("Of(%d, %d): %d, not %d", kind, category, got, l)
			}
		}
	}
	for _, category := range figures() {
		if got := level.Of(api.FIsr, category); got != isrs[category] {
			t.Errorf("Of an ISR of category %d: %d", category, got)
		}
	}
}

// P17.2: the levels are numbered as the table's columns are, by what a context of that column's name has.
func TestLevelsAreColumns(t *testing.T) {
	contexts := map[string]struct {
		kind     api.FrameKind
		category int
	}{
		"task": {api.FTask, 0}, "isr1": {api.FIsr, 1}, "isr2": {api.FIsr, 2}, "error": {api.FError, 0}, "pre": {api.FPre, 0},
		"post": {api.FPost, 0}, "startup": {api.FStartup, 0}, "shutdown": {api.FShutdown, 0}, "callback": {api.FCallback, 0},
	}
	for i, column := range columns {
		x := contexts[column]
		if got := level.Of(x.kind, x.category); int(got) != i+1 {
			t.Errorf("the level of column %s: %d, not %d", column, got, i+1)
		}
	}
}

// P17.3: every service with every level, those that are not there among them.
func TestMay(t *testing.T) {
	rows := byNumber(t)
	levels := []int{-1 << 62, -1 << 32, -64, -63, -10, -9, 31, 32, 33, 63, 64, 65, 1<<8 + 1, 1<<32 + 1, 1<<62 + 1, 1<<63 - 1, -1 << 63}
	for l := -3; l <= 20; l++ {
		levels = append(levels, l)
	}
	for _, n := range figures() {
		for _, l := range levels {
			at := api.Level(l)
			if got := level.May(n, at); got != rows[n].at[at] {
				t.Errorf("May(%d, %d): %v", n, l, got)
			}
		}
	}
}

// P17.3: how many services each level has, counted in the printed table.
func TestMayCounts(t *testing.T) {
	want := map[api.Level]int{
		api.LevelTask: 31, api.LevelIsr1: 8, api.LevelIsr2: 26, api.LevelError: 10, api.LevelPre: 9, api.LevelPost: 9,
		api.LevelStartup: 2, api.LevelShutdown: 1, api.LevelCallback: 8,
	}
	for l := api.Level(-1); l <= 11; l++ {
		n := 0
		for _, s := range level.Services() {
			if level.May(s, l) {
				n++
			}
		}
		if n != want[l] {
			t.Errorf("level %d: %d services, not %d", l, n, want[l])
		}
	}
}

// P17.5: what a routine may call reads alone, but for what is named there.
func TestRoutines(t *testing.T) {
	reads := []string{"GetActiveApplicationMode", "GetTaskID", "GetTaskState", "GetEvent", "GetAlarmBase", "GetAlarm", "GetMessageStatus"}
	named := []string{"ShutdownOS", "SuspendAllInterrupts", "ResumeAllInterrupts"}
	messages := []string{"SendMessage", "ReceiveMessage", "InitMessage", "ReadFlag", "ResetFlag"}
	for _, kind := range []api.FrameKind{api.FStartup, api.FError, api.FShutdown, api.FPre, api.FPost, api.FCallback} {
		l := level.Of(kind, 0)
		for _, s := range level.Services() {
			name := level.Name(s)
			fits := slices.Contains(reads, name) || slices.Contains(named, name) || kind == api.FCallback && slices.Contains(messages, name)
			if level.May(s, l) && !fits {
				t.Errorf("%s may be called at the level %d", name, l)
			}
		}
	}
}

// R4: however many ask at one time, each is answered the same.
func TestManyAsk(t *testing.T) {
	var all sync.WaitGroup
	for range 16 {
		all.Go(func() {
			for range 50 {
				for _, s := range level.Services() {
					n, ok := level.Number(level.Name(s))
					x, known := level.StatusOf(level.Status(api.ELimit))
					if n != s || !ok || x != api.ELimit || !known || !level.May(api.SvSchedule, level.Of(api.FTask, 0)) {
						t.Error("another answer of", s)
					}
				}
			}
		})
	}
	all.Wait()
}
