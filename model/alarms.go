package model

import "tappet/api"

// getAlarmBase is M12.
func (m *Model) getAlarmBase(s api.Step) api.Answer {
	if !m.isAlarm(s.A) {
		return refused(api.EID)
	}
	c := m.counterOf(int(s.A))
	return done(c.Max, c.Base, c.Min)
}

// getAlarm is M12.
func (m *Model) getAlarm(s api.Step) api.Answer {
	switch {
	case !m.isAlarm(s.A):
		return refused(api.EID)
	case !m.alarms[s.A].Set:
		return refused(api.ENoFunc)
	}
	return done(m.alarms[s.A].Left)
}

// setAlarm is what SetRelAlarm and SetAbsAlarm have in common: the value is from a least one on, and tells how many ticks are left (M12).
func (m *Model) setAlarm(s api.Step, least uint32, left func() uint32) api.Answer {
	if !m.isAlarm(s.A) {
		return refused(api.EID)
	}
	if m.alarms[s.A].Set {
		return refused(api.EState)
	}
	c := m.counterOf(int(s.A))
	if s.B < least || s.B > c.Max || s.C != 0 && (s.C < c.Min || s.C > c.Max) {
		return refused(api.EValue)
	}
	m.alarms[s.A] = api.AlarmLook{Set: true, Left: left(), Cycle: s.C}
	return done()
}

// setRelAlarm is M12.
func (m *Model) setRelAlarm(s api.Step) api.Answer {
	return m.setAlarm(s, 1, func() uint32 { return s.B })
}

// setAbsAlarm is M12. From a value the counter has to go through its greatest one and 0, if that is where the other lies.
func (m *Model) setAbsAlarm(s api.Step) api.Answer {
	return m.setAlarm(s, 0, func() uint32 {
		now := m.counters[m.c.Alarms[s.A].Counter]
		if s.B > now {
			return s.B - now
		}
		return m.counterOf(int(s.A)).Max + 1 - now + s.B
	})
}

// cancelAlarm is M12.
func (m *Model) cancelAlarm(s api.Step) api.Answer {
	switch {
	case !m.isAlarm(s.A):
		return refused(api.EID)
	case !m.alarms[s.A].Set:
		return refused(api.ENoFunc)
	}
	m.alarms[s.A] = api.AlarmLook{}
	return done()
}
