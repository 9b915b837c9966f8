package level

import "tappet/api"

var statuses = [...]struct {
	number api.Status
	name   string
}{
	{api.EOK, "E_OK"},
	{api.EAccess, "E_OS_ACCESS"},
	{api.ECallLevel, "E_OS_CALLEVEL"},
	{api.EID, "E_OS_ID"},
	{api.ELimit, "E_OS_LIMIT"},
	{api.ENoFunc, "E_OS_NOFUNC"},
	{api.EResource, "E_OS_RESOURCE"},
	{api.EState, "E_OS_STATE"},
	{api.EValue, "E_OS_VALUE"},
	{api.EMissingEnd, "E_OS_MISSINGEND"},
	{api.EDisabled, "E_OS_DISABLEDINT"},
	{api.EComID, "E_COM_ID"},
	{api.EComLength, "E_COM_LENGTH"},
	{api.EComLimit, "E_COM_LIMIT"},
	{api.EComNoMsg, "E_COM_NOMSG"},
}

// contexts has no level of an ISR: it hangs on the category.
var contexts = [...]struct {
	kind  api.FrameKind
	name  string
	level api.Level
}{
	{api.FTask, "TASK", api.LevelTask},
	{api.FIsr, "ISR", api.LevelNone},
	{api.FStartup, "STARTUP", api.LevelStartup},
	{api.FError, "ERROR", api.LevelError},
	{api.FShutdown, "SHUTDOWN", api.LevelShutdown},
	{api.FPre, "PRE", api.LevelPre},
	{api.FPost, "POST", api.LevelPost},
	{api.FCallback, "CALLBACK", api.LevelCallback},
}

var states = [...]struct {
	number api.TaskState
	name   string
}{
	{api.Running, "RUNNING"},
	{api.Waiting, "WAITING"},
	{api.Ready, "READY"},
	{api.Suspended, "SUSPENDED"},
}

// word is a name that can be looked up: of a status, or else of a service.
type word struct {
	status bool
	name   string
}

// numbers has the numbers of all words; it stays as init leaves it.
var numbers = map[word]int{}

func init() {
	for _, s := range services {
		numbers[word{name: s.name}] = s.number
	}
	for _, s := range statuses {
		numbers[word{status: true, name: s.name}] = int(s.number)
	}
}
