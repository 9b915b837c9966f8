package level

import "tappet/api"

// The levels at which a service may be called, as bits in the order of the levels' numbers.
const (
	atTask = 1 << iota
	atIsr1
	atIsr2
	atError
	atPre
	atPost
	atStartup
	atShutdown
	atCallback
)

// Levels that many services have in common.
const (
	atNone  = 0
	atWork  = atTask | atIsr2
	atHooks = atError | atPre | atPost
)

// service is a row of the chapter's table.
type service struct {
	number int
	name   string
	params int
	levels int
}

var services = [...]service{
	{api.SvStartOS, "StartOS", 1, atNone},
	{api.SvShutdownOS, "ShutdownOS", 1, atWork | atError | atStartup},
	{api.SvGetActiveApplicationMode, "GetActiveApplicationMode", 0, atWork | atHooks | atStartup | atShutdown},
	{api.SvActivateTask, "ActivateTask", 1, atWork},
	{api.SvTerminateTask, "TerminateTask", 0, atTask},
	{api.SvChainTask, "ChainTask", 1, atTask},
	{api.SvSchedule, "Schedule", 0, atTask},
	{api.SvGetTaskID, "GetTaskID", 0, atWork | atHooks},
	{api.SvGetTaskState, "GetTaskState", 1, atWork | atHooks},
	{api.SvEnableAllInterrupts, "EnableAllInterrupts", 0, atWork | atIsr1},
	{api.SvDisableAllInterrupts, "DisableAllInterrupts", 0, atWork | atIsr1},
	{api.SvResumeAllInterrupts, "ResumeAllInterrupts", 0, atWork | atIsr1 | atHooks | atCallback},
	{api.SvSuspendAllInterrupts, "SuspendAllInterrupts", 0, atWork | atIsr1 | atHooks | atCallback},
	{api.SvResumeOSInterrupts, "ResumeOSInterrupts", 0, atWork | atIsr1},
	{api.SvSuspendOSInterrupts, "SuspendOSInterrupts", 0, atWork | atIsr1},
	{api.SvGetResource, "GetResource", 1, atWork},
	{api.SvReleaseResource, "ReleaseResource", 1, atWork},
	{api.SvSetEvent, "SetEvent", 2, atWork},
	{api.SvClearEvent, "ClearEvent", 1, atTask},
	{api.SvGetEvent, "GetEvent", 1, atWork | atHooks},
	{api.SvWaitEvent, "WaitEvent", 1, atTask},
	{api.SvGetAlarmBase, "GetAlarmBase", 1, atWork | atHooks},
	{api.SvGetAlarm, "GetAlarm", 1, atWork | atHooks},
	{api.SvSetRelAlarm, "SetRelAlarm", 3, atWork},
	{api.SvSetAbsAlarm, "SetAbsAlarm", 3, atWork},
	{api.SvCancelAlarm, "CancelAlarm", 1, atWork},
	{api.SvSendMessage, "SendMessage", 2, atWork | atCallback},
	{api.SvReceiveMessage, "ReceiveMessage", 1, atWork | atCallback},
	{api.SvGetMessageStatus, "GetMessageStatus", 1, atWork | atHooks | atCallback},
	{api.SvInitMessage, "InitMessage", 2, atWork | atCallback},
	{api.SvReadFlag, "ReadFlag", 1, atWork | atIsr1 | atCallback},
	{api.SvResetFlag, "ResetFlag", 1, atWork | atIsr1 | atCallback},
}

// find finds a service's row.
func find(number int) (service, bool) {
	for _, s := range services {
		if s.number == number {
			return s, true
		}
	}
	return service{}, false
}

// bit is a level's among those of services; 0, if it is no level at which something runs.
func bit(l api.Level) int {
	if l < api.LevelTask || l > api.LevelCallback {
		return 0
	}
	return atTask << (l - api.LevelTask)
}
