package sched_test

// next is DOC.md's words of a pick; false: none can go on.
func next(can []bool, pick int) (int, bool) {
	var tasks []int
	for task := range can {
		if can[task] {
			tasks = append(tasks, task)
		}
	}
	if len(tasks) == 0 {
		return 0, false
	}
	return tasks[pick%len(tasks)], true
}

// told is what was told step by step, -1 where none could go on, and which tasks could.
type told struct {
	tasks []int
	can   [][]bool
}

// add adds a step.
func (x *told) add(can []bool, task int) {
	x.can = append(x.can, can)
	x.tasks = append(x.tasks, task)
}

// passed is how many times in a row, up to the end, a task that could go on was passed over.
func (x *told) passed(task int) int {
	n := 0
	for i := len(x.tasks) - 1; i >= 0 && x.can[i][task] && x.tasks[i] != task; i-- {
		n++
	}
	return n
}

// counts is passed of each of n tasks.
func (x *told) counts(n int) []int {
	l := make([]int, n)
	for task := range l {
		l[task] = x.passed(task)
	}
	return l
}

// fairNext is the chapter's words of a fair one with this K that has told all this; -1: none can go on.
func (x *told) fairNext(k int, can []bool, pick int) int {
	best := -1
	for task := len(can) - 1; task >= 0; task-- {
		if !can[task] || x.passed(task) < k {
			continue
		}
		if best < 0 || x.passed(task) >= x.passed(best) {
			best = task
		}
	}
	if best >= 0 {
		return best
	}
	if task, ok := next(can, pick); ok {
		return task
	}
	return -1
}

// most is the chapter's words of Most, of what is not wrong: of each task and each step the run that begins there.
func most(l []int, can [][]bool) int {
	out := 0
	for from := range l {
		for task := range can[0] {
			n := 0
			for from+n < len(l) && can[from+n][task] && l[from+n] != task {
				n++
			}
			out = max(out, n)
		}
	}
	return out
}

// couldBe is the chapter's words of what Most takes.
func couldBe(l []int, can [][]bool) bool {
	if len(l) != len(can) {
		return false
	}
	for i, task := range l {
		if len(can[i]) != len(can[0]) || task < 0 || task >= len(can[i]) || !can[i][task] {
			return false
		}
	}
	return true
}

// bound is P15.4's words of how often one is passed over at most.
func bound(tasks, k int) int {
	if tasks == 1 {
		return 0
	}
	return max(k, 1) + tasks - 2
}
