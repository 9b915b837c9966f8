package kernel

import (
	"tappet/api"
	"tappet/level"
)

// idle is the answer of a step that changes nothing.
func idle() api.Answer { return api.Answer{Idle: true} }

// do does what a step brings, ahead of settling.
func (k *Kernel) do(s api.Step) api.Answer {
	switch s.Kind {
	case api.SStart:
		return k.start(s.ID)
	case api.SCall:
		return k.call(s)
	case api.SReturn:
		return k.endBody()
	case api.SIrq:
		return k.request(s.ID)
	case api.STick:
		return k.tick(s.ID)
	}
	return idle()
}

// settled settles behind what was done, and answers.
func (k *Kernel) settled(a api.Answer) api.Answer {
	if !a.Idle {
		k.settle()
	}
	a.Run = k.top().frame
	a.Begun, k.begun = k.begun, nil
	return a
}

// start is M1.
func (k *Kernel) start(mode int) api.Answer {
	if k.phase != api.Off {
		return idle()
	}
	if mode < 0 || mode >= k.modes {
		return api.Answer{Status: api.EID}
	}
	k.phase, k.mode = api.Up, mode
	for id, row := range k.tasks {
		if row.auto>>mode&1 == 1 {
			k.core.Activate(id)
		}
	}
	k.board.Auto(mode)
	k.beginHook(api.UseStartup, api.Frame{Kind: api.FStartup})
	return api.Answer{}
}

// call is M2. (While some context runs, the phase is up, or it is a routine.)
func (k *Kernel) call(s api.Step) api.Answer {
	if !k.isAnyOnTop() {
		return idle()
	}
	v, status := k.serve(s)
	if status != api.EOK {
		k.fail(status, s.Service, firstParam(s))
		return api.Answer{Status: status}
	}
	return api.Answer{V: v}
}

// firstParam is what an error tells of a call's parameters.
func firstParam(s api.Step) uint32 {
	if !isService(s.Service) || level.Params(s.Service) == 0 {
		return 0
	}
	return s.A
}

// endBody is M3.
func (k *Kernel) endBody() api.Answer {
	if !k.isAnyOnTop() {
		return idle()
	}
	c := k.top()
	if h, holds := holderOf(c.frame); holds {
		return api.Answer{Status: h.end(k, c.gate)}
	}
	k.endFrame(c.gate)
	return api.Answer{}
}

// request is M4 of an ISR.
func (k *Kernel) request(isr int) api.Answer {
	if k.phase != api.Up {
		return idle()
	}
	return api.Answer{Status: k.board.Request(isr)}
}

// tick is M4 of a counter.
func (k *Kernel) tick(counter int) api.Answer {
	if k.phase != api.Up {
		return idle()
	}
	expired, e := k.board.Tick(counter)
	if e != api.OK {
		return api.Answer{Status: api.EID}
	}
	for _, alarm := range expired {
		k.act(k.actions[alarm], alarm)
	}
	return api.Answer{Expired: expired}
}
