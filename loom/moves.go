package loom

import "massif/api"

// list puts behind moves those that can be made, in the order in which they are told. Play hands in one list again and
// again: it makes many moves.
func (l *Loom) list(moves []api.Move) []api.Move {
	if l.feeder.at == busy && l.held < l.room {
		moves = append(moves, api.Move{Kind: api.Put, Job: l.feeder.job})
	}
	if job, ok := l.offered(); ok {
		moves = l.ofFree(moves, api.Give, job)
	}
	if l.feeder.free() {
		moves = append(moves, api.Move{Kind: api.Shut})
	}
	if l.feeder.gone() && l.held == 0 {
		moves = l.ofFree(moves, api.Leave, 0)
	}
	if !l.collector.gone() {
		moves = l.ofBusy(moves)
	}
	if l.cancelled {
		moves = l.quits(moves)
	}
	return moves
}

// offered is the job that comes to the next worker, if there is one.
func (l *Loom) offered() (int, bool) {
	if l.room == 0 {
		return l.feeder.job, l.feeder.at == busy
	}
	return l.first, l.held > 0
}

// ofFree are the moves of this kind that idle workers can make.
func (l *Loom) ofFree(moves []api.Move, kind, job int) []api.Move {
	for i, w := range l.workers {
		if w.free() {
			moves = append(moves, api.Move{Kind: kind, Worker: i, Job: job})
		}
	}
	return moves
}

// ofBusy are the answers that workers have.
func (l *Loom) ofBusy(moves []api.Move) []api.Move {
	for i, w := range l.workers {
		if w.at == busy {
			moves = append(moves, api.Move{Kind: api.Answer, Worker: i, Job: w.job})
		}
	}
	return moves
}

// quits are those of all who have not left.
func (l *Loom) quits(moves []api.Move) []api.Move {
	for who := api.Feeder; who < len(l.workers); who++ {
		if !l.who(who).gone() {
			moves = append(moves, api.Move{Kind: api.Quit, Worker: who})
		}
	}
	return moves
}

// who is the state of a worker, or of Feeder or Collector.
func (l *Loom) who(worker int) *state {
	switch worker {
	case api.Feeder:
		return &l.feeder
	case api.Collector:
		return &l.collector
	}
	return &l.workers[worker]
}

// do makes a move that can be made.
func (l *Loom) do(m api.Move) {
	switch m.Kind {
	case api.Put:
		l.put()
	case api.Give:
		l.give(m)
	case api.Shut:
		l.feeder = state{at: left}
	case api.Answer:
		l.answer(m)
	case api.Leave, api.Quit:
		*l.who(m.Worker) = state{at: left}
	}
	l.made++
	l.top = max(l.top, l.Gauge())
}

func (l *Loom) put() {
	l.held++
	l.feeder = before(l.feeder.job+1, l.jobs)
}

func (l *Loom) give(m api.Move) {
	if l.room == 0 {
		l.put() // from hand to hand: it is out of the channel again before anybody looks
	}
	l.first++
	l.held--
	l.workers[m.Worker] = state{at: busy, job: m.Job}
}

func (l *Loom) answer(m api.Move) {
	l.workers[m.Worker] = state{at: idle}
	l.answers = append(l.answers, m.Job)
	if len(l.answers) == l.jobs {
		l.collector = state{at: left}
	}
}
