package side

import (
	"errors"
	"runtime"
	"slices"
	"strconv"
	"strings"
	"sync"
	"sync/atomic"
	"testing"

	"tidegauge/api"
)

// upTo n, from 0 on.
func upTo(n int) []int {
	var l []int
	for i := range n {
		l = append(l, i)
	}
	return l
}

func TestEachOfAnyKind(t *testing.T) {
	if l, err := each([]string{"a", "b", ""}, 2, func(s string) (int, error) { return len(s), nil }); !slices.Equal(l, []int{1, 1, 0}) || err != nil {
		t.Error(l, err)
	}
	if l, err := each([]struct{ n int }{{1}, {2}}, 2, func(x struct{ n int }) (any, error) { return strconv.Itoa(x.n), nil }); len(l) != 2 || l[0] != "1" || l[1] != "2" || err != nil {
		t.Error(l, err)
	}
	if l, err := each(nil, 2, func(struct{}) (struct{}, error) { return struct{}{}, nil }); len(l) != 0 || err != nil {
		t.Error(l, err)
	}
}

func TestEachTaskIsDoneOnce(t *testing.T) {
	everyone(func(w int) {
		var times [maxTasks]atomic.Int32
		l, err := each(upTo(maxTasks), w, func(i int) (int, error) {
			times[i].Add(1)
			return i * i, nil
		})
		if len(l) != maxTasks || err != nil {
			t.Fatal(w, l, err)
		}
		for i, n := range l {
			if n != i*i || times[i].Load() != 1 {
				t.Error(w, i, n, times[i].Load())
			}
		}
	})
}

func TestNoTaskOfAWrongCall(t *testing.T) {
	for _, c := range []struct {
		n, workers int
		want       error
	}{{3, 0, api.ErrShape}, {3, api.Workers + 1, api.ErrShape}, {maxTasks + 1, 0, api.ErrShape}, {maxTasks + 1, 3, api.ErrBound}} {
		l, err := each(upTo(c.n), c.workers, func(i int) (int, error) {
			t.Error(c, i)
			return i, nil
		})
		if len(l) != 0 || err != c.want {
			t.Error(c, l, err)
		}
	}
}

// Each task waits until all workers have one: if they did not work side by side, it would not end.
func TestSideBySide(t *testing.T) {
	everyone(func(w int) {
		var all sync.WaitGroup
		all.Add(w)
		if l, err := each(upTo(w), w, func(i int) (int, error) {
			all.Done()
			all.Wait()
			return i, nil
		}); !slices.Equal(l, upTo(w)) || err != nil {
			t.Error(w, l, err)
		}
	})
}

func TestNoMoreThanWorkers(t *testing.T) {
	everyone(func(w int) {
		var now, most atomic.Int32
		_, err := each(upTo(maxTasks), w, func(i int) (int, error) {
			n := now.Add(1)
			for m := most.Load(); n > m && !most.CompareAndSwap(m, n); m = most.Load() {
			}
			runtime.Gosched()
			now.Add(-1)
			return i, nil
		})
		if int(most.Load()) > w || err != nil {
			t.Error(w, most.Load(), err)
		}
	})
}

// Answers stand in the order of the tasks, also where these end the other way round.
func TestOrderIsThatOfTasks(t *testing.T) {
	const n = api.Workers
	var gates [n + 1]chan struct{}
	for i := range gates {
		gates[i] = make(chan struct{})
	}
	close(gates[n])
	do := func(i int) (string, error) {
		<-gates[i+1]
		defer close(gates[i])
		if i%5 == 3 {
			return "", &api.Fault{At: 77, Err: errors.New("of " + strconv.Itoa(i))}
		}
		return strconv.Itoa(i), nil
	}
	all := done(upTo(n), n, do)
	for i, m := range all {
		if m.number != i || (m.err != nil) != (i%5 == 3) || m.err == nil && m.answer != strconv.Itoa(i) {
			t.Error(i, m)
		}
	}
	l, err := answers(all)
	f, ok := err.(*api.Fault)
	if len(l) != 0 || !ok || f.At != 3 || f.Err.Error() != "of 3" {
		t.Errorf("%v, %#v", l, err)
	}
}

// No goroutine of the package is left when a call has answered.
func TestAllAreJoined(t *testing.T) {
	l := lists(100)
	s := texts(t, l)
	for range 3 {
		everyone(func(w int) {
			Encodes(l, w)
			Decodes(s, w)
			Decodes(s[:0], w)
			Decodes([]string{"", "abcde"}, w)
		})
	}
	// One that has said that it is done may still have its last step ahead: a few turns, and it is gone.
	var left int
	for range 1000 {
		b := make([]byte, 1<<20)
		left = strings.Count(string(b[:runtime.Stack(b, true)]), "side.done")
		if left == 0 {
			return
		}
		runtime.Gosched()
	}
	t.Error(left)
}
