package wear

import (
	"portcullis/api"
	"portcullis/chip"
)

// reckoner reckons how many acts are done at most on a chip of its config.
type reckoner struct {
	config api.Config
}

// Acts tells how many acts a step does at most.
func Acts(c api.Config, kind int) int {
	if chip.May(c) != api.OK {
		return 0
	}
	acts, is := actsOf(reckoner{c})[kind]
	if !is {
		return 0
	}
	return acts()
}

// actsOf tells what reckons the acts of each kind of step that does any.
func actsOf(r reckoner) map[int]func() int {
	return map[int]func() int{
		api.StepBump:    r.raise,
		api.StepBumpTo:  r.raise,
		api.StepConfirm: r.raise,
		api.StepRevoke:  r.revoke,
		api.StepStage:   r.stage,
	}
}

// lay is of a turn, which does the most: an erase, a record for each slot of the log (there is one more than counters), the head.
func (r reckoner) lay() int {
	return 1 + (r.config.Slots + 1) + 1
}

// raise is of a counter that goes from its first value to its last one: all of its fuses are blown.
func (r reckoner) raise() int {
	return r.lay() + r.config.Fuses
}

func (r reckoner) revoke() int {
	return 1
}

// stage is of an image that fills an area of which every page has to be erased.
func (r reckoner) stage() int {
	return r.lay() + r.config.Area + r.config.Area*r.config.Cells
}
