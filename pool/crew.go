package pool

import (
	"sync"

	"massif/api"
)

// answer is the nodes that a job has come to.
type answer struct {
	job   int
	nodes []api.Hash
}

// crew is who does the jobs of one call: a feeder and workers, each a goroutine; who called gathers the answers.
type crew struct {
	do      func(job int) []api.Hash
	jobs    chan int
	answers chan answer
	cancel  chan struct{} // it is closed when no answer is gathered any more
	ended   sync.WaitGroup
}

// run has jobs done by up to so many workers at the same time, till need of them have been answered; the answer of a job
// stands at its number. All goroutines have ended when it answers.
func run(jobs, workers, need int, do func(job int) []api.Hash) [][]api.Hash {
	c := &crew{do: do, jobs: make(chan int), answers: make(chan answer), cancel: make(chan struct{})}
	c.begin(jobs, min(workers, jobs))
	lists := make([][]api.Hash, jobs)
	for range need {
		a := <-c.answers
		lists[a.job] = a.nodes
	}
	close(c.cancel)
	c.ended.Wait()
	return lists
}

func (c *crew) begin(jobs, workers int) {
	c.ended.Add(1 + workers)
	go c.feed(jobs)
	for range workers {
		go c.work()
	}
}

// feed hands out the jobs. It alone sends on their channel, and closes it when it sends no more: so idle workers leave.
func (c *crew) feed(jobs int) {
	defer c.ended.Done()
	defer close(c.jobs)
	for job := range jobs {
		select {
		case c.jobs <- job:
		case <-c.cancel:
			return
		}
	}
}

// work does jobs as long as there are some. Their answers' channel is never closed, as a worker may still hold one when
// the cancel comes: nobody takes it then, and it is lost.
func (c *crew) work() {
	defer c.ended.Done()
	for job := range c.jobs {
		a := answer{job, c.do(job)}
		select {
		case c.answers <- a:
		case <-c.cancel:
			return
		}
	}
}
