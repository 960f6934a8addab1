package loom

// stand is where the feeder, a worker or the collector stands.
type stand int

const (
	idle stand = iota // with no job in hand
	busy              // with one
	left              // it makes no move any more
)

// state is what one of them is. There is no job but in the hand of who is busy: so those that are idle, or have left, are
// one value each, and can be told by it.
type state struct {
	at  stand
	job int
}

func (s state) free() bool { return s == state{at: idle} }
func (s state) gone() bool { return s == state{at: left} }

// before is a feeder whose next job is this one, if there are so many.
func before(job, jobs int) state {
	if job < jobs {
		return state{at: busy, job: job}
	}
	return state{at: idle}
}
