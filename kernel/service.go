package kernel

import (
	"tappet/api"
	"tappet/level"
)

// values are what a service tells.
type values = [3]uint32

// service does what a call asks, which is let to be called (M5 to M13).
type service func(k *Kernel, s api.Step) (values, api.Status)

// services are those that some level lets be called, by their numbers.
func services() map[int]service {
	return map[int]service{
		api.SvShutdownOS:               (*Kernel).shutdownOS,
		api.SvGetActiveApplicationMode: (*Kernel).getMode,
		api.SvActivateTask:             (*Kernel).activateTask,
		api.SvTerminateTask:            (*Kernel).terminateTask,
		api.SvChainTask:                (*Kernel).chainTask,
		api.SvSchedule:                 (*Kernel).schedule,
		api.SvGetTaskID:                (*Kernel).getTaskID,
		api.SvGetTaskState:             (*Kernel).getTaskState,
		api.SvEnableAllInterrupts:      (*Kernel).enableAll,
		api.SvDisableAllInterrupts:     (*Kernel).disableAll,
		api.SvResumeAllInterrupts:      (*Kernel).resumeAll,
		api.SvSuspendAllInterrupts:     (*Kernel).suspendAll,
		api.SvResumeOSInterrupts:       (*Kernel).resumeOS,
		api.SvSuspendOSInterrupts:      (*Kernel).suspendOS,
		api.SvGetResource:              (*Kernel).getResource,
		api.SvReleaseResource:          (*Kernel).releaseResource,
		api.SvSetEvent:                 (*Kernel).setEvent,
		api.SvClearEvent:               (*Kernel).clearEvent,
		api.SvGetEvent:                 (*Kernel).getEvent,
		api.SvWaitEvent:                (*Kernel).waitEvent,
		api.SvGetAlarmBase:             (*Kernel).getAlarmBase,
		api.SvGetAlarm:                 (*Kernel).getAlarm,
		api.SvSetRelAlarm:              (*Kernel).setRelAlarm,
		api.SvSetAbsAlarm:              (*Kernel).setAbsAlarm,
		api.SvCancelAlarm:              (*Kernel).cancelAlarm,
	}
}

// isService: those of greater numbers are messages', and not the kernel's (P22.2).
func isService(service int) bool {
	return service >= api.SvStartOS && service <= api.SvCancelAlarm
}

// isForInterrupts: one of the six that may be called while interrupts are shut out.
func isForInterrupts(service int) bool {
	return service >= api.SvEnableAllInterrupts && service <= api.SvSuspendOSInterrupts
}

// serve does a call of the context that runs, if it may call that now (M2).
func (k *Kernel) serve(s api.Step) (values, api.Status) {
	switch {
	case !isService(s.Service):
		return values{}, api.EID
	case !level.May(s.Service, k.level()):
		return values{}, api.ECallLevel
	case !k.isOpen() && !isForInterrupts(s.Service):
		return values{}, api.EDisabled
	}
	return k.services[s.Service](k, s)
}

// shutdownOS is M13's. (What ISRs hold is gone with their frames.)
func (k *Kernel) shutdownOS(s api.Step) (values, api.Status) {
	k.phase = api.Down
	k.core.Reset()
	k.board.Calm()
	k.frames.Cut(0)
	k.errors.clear()
	k.callbacks.clear()
	k.beginHook(api.UseShutdown, api.Frame{Kind: api.FShutdown, Status: api.Status(s.A)})
	return values{}, api.EOK
}

func (k *Kernel) getMode(api.Step) (values, api.Status) {
	return values{uint32(k.mode)}, api.EOK
}

func (k *Kernel) activateTask(s api.Step) (values, api.Status) {
	return values{}, k.core.Activate(int(s.A))
}

// leave is behind a call by which the running task may leave.
func (k *Kernel) leave(status api.Status) (values, api.Status) {
	k.beginToLeave()
	return values{}, status
}

func (k *Kernel) terminateTask(api.Step) (values, api.Status) { return k.leave(k.core.Terminate()) }

func (k *Kernel) chainTask(s api.Step) (values, api.Status) { return k.leave(k.core.Chain(int(s.A))) }

func (k *Kernel) schedule(api.Step) (values, api.Status) { return k.leave(k.core.Schedule()) }

func (k *Kernel) waitEvent(s api.Step) (values, api.Status) { return k.leave(k.core.WaitEvent(s.A)) }

// getTaskID tells of nobody, who is -1 below, 2^32 - 1.
func (k *Kernel) getTaskID(api.Step) (values, api.Status) {
	return values{uint32(k.core.Running())}, api.EOK
}

func (k *Kernel) getTaskState(s api.Step) (values, api.Status) {
	state, status := k.core.State(int(s.A))
	return values{uint32(state)}, status
}

// allowed is behind a call that is never refused.
func allowed(api.Errno) (values, api.Status) { return values{}, api.EOK }

func (k *Kernel) enableAll(api.Step) (values, api.Status) { return allowed(k.core.Open()) }

func (k *Kernel) disableAll(api.Step) (values, api.Status) { return allowed(k.core.Close()) }

func (k *Kernel) resumeAll(api.Step) (values, api.Status) { return allowed(k.core.Resume(true)) }

func (k *Kernel) suspendAll(api.Step) (values, api.Status) { return allowed(k.core.Suspend(true)) }

func (k *Kernel) resumeOS(api.Step) (values, api.Status) { return allowed(k.core.Resume(false)) }

func (k *Kernel) suspendOS(api.Step) (values, api.Status) { return allowed(k.core.Suspend(false)) }

func (k *Kernel) getResource(s api.Step) (values, api.Status) {
	return values{}, k.core.Get(k.caller(), int(s.A))
}

func (k *Kernel) releaseResource(s api.Step) (values, api.Status) {
	return values{}, k.core.Release(k.caller(), int(s.A))
}

func (k *Kernel) setEvent(s api.Step) (values, api.Status) {
	return values{}, k.core.SetEvent(int(s.A), s.B)
}

func (k *Kernel) clearEvent(s api.Step) (values, api.Status) {
	return values{}, k.core.ClearEvent(s.A)
}

func (k *Kernel) getEvent(s api.Step) (values, api.Status) {
	set, status := k.core.GetEvent(int(s.A))
	return values{set}, status
}

func (k *Kernel) getAlarmBase(s api.Step) (values, api.Status) { return k.board.Base(int(s.A)) }

func (k *Kernel) getAlarm(s api.Step) (values, api.Status) {
	left, status := k.board.Left(int(s.A))
	return values{left}, status
}

func (k *Kernel) setRelAlarm(s api.Step) (values, api.Status) {
	return values{}, k.board.Rel(int(s.A), s.B, s.C)
}

func (k *Kernel) setAbsAlarm(s api.Step) (values, api.Status) {
	return values{}, k.board.Abs(int(s.A), s.B, s.C)
}

func (k *Kernel) cancelAlarm(s api.Step) (values, api.Status) {
	return values{}, k.board.Cancel(int(s.A))
}
