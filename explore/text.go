package explore

import (
	"strconv"

	"tappet/api"
)

// write writes a look behind a text; of two looks that differ the texts do: each number ends by itself, and ahead of each list stands how long it is.
func write(b []byte, l api.Look) []byte {
	b = number(number(b, l.Phase), l.Mode)
	b = list(b, l.Tasks, task)
	b = list(b, l.Frames, frame)
	b = numbers(b, l.Requested)
	b = list(b, l.Held, numbers)
	b = number(number(yes(b, l.Shut), l.All), l.Os)
	b = list(b, l.Counters, number)
	b = list(b, l.Alarms, alarm)
	b = list(b, l.Rings, numbers)
	return numbers(b, l.Preempted)
}

func number[N ~int | ~uint32](b []byte, n N) []byte {
	return append(strconv.AppendInt(b, int64(n), 10), ' ')
}

func list[T any](b []byte, l []T, one func([]byte, T) []byte) []byte {
	b = number(b, len(l))
	for _, x := range l {
		b = one(b, x)
	}
	return b
}

func numbers(b []byte, l []int) []byte { return list(b, l, number[int]) }

func yes(b []byte, is bool) []byte {
	if is {
		return number(b, 1)
	}
	return number(b, 0)
}

func task(b []byte, t api.TaskLook) []byte {
	b = number(number(number(b, t.State), t.Priority), t.Active)
	b = number(number(b, t.Set), t.Waits)
	return yes(numbers(b, t.Held), t.Internal)
}

func frame(b []byte, f api.Frame) []byte {
	b = number(number(number(b, f.Kind), f.ID), f.Status)
	return number(number(b, f.Service), f.Param)
}

func alarm(b []byte, a api.AlarmLook) []byte {
	return number(number(yes(b, a.Set), a.Left), a.Cycle)
}
