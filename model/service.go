package model

import (
	"tappet/api"
	"tappet/level"
)

// service does what a call asks that is let to be called.
type service func(m *Model, s api.Step) api.Answer

// services are those that some level lets be called, by their numbers.
func services() []service {
	return []service{
		api.SvShutdownOS:               (*Model).shutdownOS,
		api.SvGetActiveApplicationMode: (*Model).getActiveApplicationMode,
		api.SvActivateTask:             (*Model).activateTask,
		api.SvTerminateTask:            (*Model).terminateTask,
		api.SvChainTask:                (*Model).chainTask,
		api.SvSchedule:                 (*Model).schedule,
		api.SvGetTaskID:                (*Model).getTaskID,
		api.SvGetTaskState:             (*Model).getTaskState,
		api.SvEnableAllInterrupts:      (*Model).enableAllInterrupts,
		api.SvDisableAllInterrupts:     (*Model).disableAllInterrupts,
		api.SvResumeAllInterrupts:      (*Model).resumeAllInterrupts,
		api.SvSuspendAllInterrupts:     (*Model).suspendAllInterrupts,
		api.SvResumeOSInterrupts:       (*Model).resumeOSInterrupts,
		api.SvSuspendOSInterrupts:      (*Model).suspendOSInterrupts,
		api.SvGetResource:              (*Model).getResource,
		api.SvReleaseResource:          (*Model).releaseResource,
		api.SvSetEvent:                 (*Model).setEvent,
		api.SvClearEvent:               (*Model).clearEvent,
		api.SvGetEvent:                 (*Model).getEvent,
		api.SvWaitEvent:                (*Model).waitEvent,
		api.SvGetAlarmBase:             (*Model).getAlarmBase,
		api.SvGetAlarm:                 (*Model).getAlarm,
		api.SvSetRelAlarm:              (*Model).setRelAlarm,
		api.SvSetAbsAlarm:              (*Model).setAbsAlarm,
		api.SvCancelAlarm:              (*Model).cancelAlarm,
	}
}

// isService: those of greater numbers are messages', and none of the machine's (P23.2).
func isService(number int) bool {
	return number >= api.SvStartOS && number <= api.SvCancelAlarm
}

// isForInterrupts: one of the six.
func isForInterrupts(number int) bool {
	return number >= api.SvEnableAllInterrupts && number <= api.SvSuspendOSInterrupts
}

// level is what the context that runs lets be called.
func (m *Model) level() api.Level {
	f := m.top().frame
	category := 0
	if f.Kind == api.FIsr {
		category = m.c.Isrs[f.ID].Category
	}
	return level.Of(f.Kind, category)
}

// call is M2.
func (m *Model) call(s api.Step) api.Answer {
	f := m.top().frame
	if !m.isUp() && !isRoutine(f.Kind) || f.Kind == api.FNone {
		return idle()
	}
	a := m.serve(s)
	if a.Status != api.EOK {
		m.fail(a.Status, s.Service, firstParameter(s))
	}
	return a
}

// serve does a call, if it may be called now.
func (m *Model) serve(s api.Step) api.Answer {
	switch {
	case !isService(s.Service):
		return refused(api.EID)
	case !level.May(s.Service, m.level()):
		return refused(api.ECallLevel)
	case !m.isOpen() && !isForInterrupts(s.Service):
		return refused(api.EDisabled)
	}
	return m.services[s.Service](m, s)
}

// firstParameter is what an error tells of a call.
func firstParameter(s api.Step) uint32 {
	if !isService(s.Service) || level.Params(s.Service) == 0 {
		return 0
	}
	return s.A
}
