package side

import (
	"sync"

	"tidegauge/api"
	"tidegauge/fault"
)

const maxTasks = 100

// made of a task. Workers end in any order, so it has the task's number with it.
type made[A any] struct {
	number int
	answer A
	err    error
}

// each task's answer, in the order of the tasks, by so many workers.
func each[T, A any](tasks []T, workers int, do func(T) (A, error)) ([]A, error) {
	if workers < 1 || workers > api.Workers {
		return nil, api.ErrShape
	}
	if len(tasks) > maxTasks {
		return nil, api.ErrBound
	}
	return answers(done(tasks, workers, do))
}

// done tasks, by number. No worker is left when it answers.
func done[T, A any](tasks []T, workers int, do func(T) (A, error)) []made[A] {
	numbers, results := make(chan int), make(chan made[A])
	var group sync.WaitGroup
	for range workers {
		group.Add(1)
		go func() {
			defer group.Done()
			work(tasks, do, numbers, results)
		}()
	}
	all := gather(len(tasks), numbers, results)
	close(numbers)
	group.Wait()
	return all
}

// work on the tasks whose numbers come, until no more can come.
func work[T, A any](tasks []T, do func(T) (A, error), numbers <-chan int, results chan<- made[A]) {
	for i := range numbers {
		answer, err := do(tasks[i])
		results <- made[A]{number: i, answer: answer, err: err}
	}
}

// gather what is made of n tasks, while their numbers are handed out. Both are in one select: if all numbers had to go ahead, workers that want to tell would not be heard, and nobody would take the next one.
func gather[A any](n int, numbers chan<- int, results <-chan made[A]) []made[A] {
	all := make([]made[A], n)
	next := 0
	for got := 0; got < n; {
		select {
		case numbers <- next:
			next++
			if next == n {
				// A nil channel is never ready: from here on there are only results.
				numbers = nil
			}
		case m := <-results:
			all[m.number] = m
			got++
		}
	}
	return all
}

// answers alone, or the error of the first task that has one: the first by number, since which one came first is chance.
func answers[A any](all []made[A]) ([]A, error) {
	l := make([]A, 0, len(all))
	for i, m := range all {
		if m.err != nil {
			return nil, fault.At(i, m.err)
		}
		l = append(l, m.answer)
	}
	return l, nil
}
