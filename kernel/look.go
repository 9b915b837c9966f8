package kernel

import (
	"slices"

	"tappet/api"
)

// Look tells how the kernel stands (P22.4).
func (k *Kernel) Look() api.Look {
	if k.none() {
		return api.Look{}
	}
	middle, gate := k.core.Look(), k.core.Gate()
	return api.Look{
		Phase:     k.phase,
		Mode:      k.mode,
		Tasks:     middle.Tasks,
		Frames:    k.lookAtFrames(),
		Requested: k.board.Requested(),
		Held:      k.heldByIsrs(),
		Shut:      gate.Shut,
		All:       gate.All,
		Os:        gate.Os,
		Counters:  k.board.Counters(),
		Alarms:    k.board.Alarms(),
		Rings:     middle.Rings,
		Preempted: middle.Preempted,
	}
}

func (k *Kernel) lookAtFrames() []api.Frame {
	var frames []api.Frame
	for c := range k.frames.All() {
		frames = append(frames, c.frame)
	}
	slices.Reverse(frames) // the stack tells them from the top on
	return frames
}

func (k *Kernel) heldByIsrs() [][]int {
	held := make([][]int, len(k.categories))
	for id := range held {
		held[id] = k.core.Held(isrHolder(id).owner())
	}
	return held
}

// Marks tells how full its rooms were (P22.5).
func (k *Kernel) Marks() api.Marks {
	if k.none() {
		return api.Marks{}
	}
	return api.Marks{
		Rings:     k.core.marks(),
		Preempted: k.core.preempted.High(),
		Frames:    k.frames.High(),
		Errors:    k.errors.high,
		Callbacks: k.callbacks.high,
	}
}
