package pool_test

import (
	"fmt"
	"runtime"
	"sync/atomic"
	"testing"
	"time"

	"massif/api"
	"massif/pool"
)

// gauge counts jobs that begin and end.
type gauge struct{ begun, held, top atomic.Int64 }

// begin is the how-many-th job it is that begins, from 1 on.
func (g *gauge) begin() int {
	held := g.held.Add(1)
	for top := g.top.Load(); held > top; top = g.top.Load() {
		if g.top.CompareAndSwap(top, held) {
			break
		}
	}
	return int(g.begun.Add(1))
}

func (g *gauge) end() { g.held.Add(-1) }

// Promise 14.2: up to so many workers hash at the same time: the first jobs, as many as there can be at once, wait for
// one another, which they can do only if all of them are held at once; and never are there more.
func TestAtTheSameTime(t *testing.T) {
	for _, workers := range []int{1, 2, 3, 7, 63, 64} {
		for _, jobs := range []int{1, 2, 3, 8, 63, 64, 65, 200} {
			when := fmt.Sprint(workers, " workers, ", jobs, " jobs")
			most := min(workers, jobs)
			var g gauge
			met := make(chan struct{})
			lists := pool.Run(jobs, workers, jobs, func(job int) []api.Hash {
				defer g.end()
				if g.begin() == most {
					close(met)
				}
				awaited(t, when, met)
				return []api.Hash{leaf(job)}
			})
			same(t, when, "how many were held at once", g.top.Load(), int64(most))
			same(t, when, "how many began", g.begun.Load(), int64(jobs))
			same(t, when, "how many lists there are", len(lists), jobs)
			for job, list := range lists {
				same(t, when, fmt.Sprint("the list of job ", job), list[0], leaf(job))
			}
		}
	}
}

// awaited waits for met, but not for ever.
func awaited(t *testing.T, when string, met chan struct{}) {
	select {
	case <-met:
	case <-time.After(10 * time.Second):
		t.Errorf("%s: too few jobs are held at once", when)
	}
}

// Promise 14.2: when the call answers, cancelled or not, no job is held; the cancel comes when just so many jobs have been
// answered, and behind it each worker loses one job at most.
func TestAllHaveEnded(t *testing.T) {
	for _, workers := range []int{1, 2, 5, 64} {
		for _, jobs := range []int{1, 2, 6, 40, 150} {
			for _, need := range []int{0, 1, jobs / 2, jobs - 1, jobs} {
				when := fmt.Sprint(workers, " workers, ", jobs, " jobs, of which ", need, " are answered")
				var g gauge
				pool.Run(jobs, workers, need, func(job int) []api.Hash {
					defer g.end()
					g.begin()
					for range job % 20 {
						runtime.Gosched()
					}
					return nil
				})
				same(t, when, "how many jobs are held", g.held.Load(), 0)
				begun := int(g.begun.Load())
				same(t, when, "that enough began", begun >= need && begun <= min(jobs, need+workers), true)
				time.Sleep(100 * time.Microsecond)
				same(t, when, "how many began in all", int(g.begun.Load()), begun)
			}
		}
	}
}

// Promise 14.2: who is still at work when the cancel comes is waited for.
func TestLateWorkers(t *testing.T) {
	var g gauge
	pool.Run(8, 4, 1, func(job int) []api.Hash {
		defer g.end()
		if g.begin() > 1 {
			time.Sleep(20 * time.Millisecond)
		}
		return nil
	})
	same(t, "behind a cancel", "how many jobs are held", g.held.Load(), 0)
}

// Promise 14.2 and rule R4: no goroutine is left when a call has answered, cancelled or not.
func TestNobodyIsLeft(t *testing.T) {
	before := settled()
	parts := partsOf(8, 1, 2, 32, 4, 1, 16, 64, 2, 1)
	for _, workers := range []int{1, 2, 9, 10, 11, 64} {
		for stop := -1; stop <= len(parts)+1; stop++ {
			c := call{32, parts, workers, stop}
			for range 10 {
				c.ask()
			}
			nobodyLeft(t, c.String(), before)
		}
	}
	for _, c := range []call{
		{32, nil, 64, -1}, {32, nil, 1, 0}, {32, parts, 0, -1}, {32, partsOf(4, 3), 4, -1}, {32, partsOf(1<<16, 1), 4, 1},
	} {
		c.ask()
		nobodyLeft(t, c.String(), before)
	}
}
