package target

import (
	"slices"

	"pallet/api"
	"pallet/inq"
	"pallet/sess"
	"pallet/task"
	"pallet/unit"
)

// job is a task of a unit's set, with the connection that it came over.
type job struct {
	conn  int
	unit  int
	nexus int
	work  sess.Task
}

// is: a task of the job's set is the job's own.
func (j job) is(t task.Task) bool {
	return t.Nexus == j.nexus && t.Tag == j.work.Tag
}

// Functions on tasks, and how they end.
const (
	abortOne   byte = 1
	abortAll   byte = 2
	resetUnit  byte = 5
	done       byte = 0
	noSuchTask byte = 1
	noSuchUnit byte = 2
	notKnown   byte = 5
)

// A command that the target itself answers, and where that says how many bytes are wanted.
const (
	reportLuns byte = 0xa0
	allocAt         = 6
	allocEnd        = 10
)

// begin begins a task of a connection with a session.
func (t *Target) begin(n int, w sess.Task) {
	c := t.conns[n]
	at := t.config.unitAt(c.nexus, int(w.LUN))
	switch {
	case isFunction(w):
		code := t.doFunction(c.nexus, at, w)
		c.send(c.session.Told(w.Tag, code)...)
	case w.CDB[0] == reportLuns:
		list := inq.Luns(t.config.luns(c.nexus))
		t.end(n, w.Tag, api.Result{Status: api.Good, Data: inq.Cut(list, alloc(w.CDB))}, nil)
	case at == none:
		why := api.Sense{Key: api.IllegalReq, Code: api.NoUnit}
		t.end(n, w.Tag, api.Result{Status: api.Check, Sense: why}, nil)
	default:
		t.enter(job{conn: n, unit: at, nexus: c.nexus, work: w})
	}
}

// isFunction: a task has no command. (Its Func doesn't tell: 0 is a function, too, though none that is known.)
func isFunction(w sess.Task) bool {
	return len(w.CDB) == 0
}

func alloc(command []byte) int {
	n := 0
	for _, b := range command[allocAt:allocEnd] {
		n = n<<8 | int(b)
	}
	return n
}

// doFunction does a function of a nexus on the tasks of a unit, and tells how it ended.
func (t *Target) doFunction(nexus, at int, w sess.Task) byte {
	if at == none {
		return noSuchUnit
	}
	switch w.Func {
	case abortOne:
		gone := t.sets[at].Abort(nexus, w.Ref)
		t.forget(at, gone)
		if len(gone) == 0 {
			return noSuchTask
		}
	case abortAll:
		t.forget(at, t.sets[at].AbortAll(nexus))
	case resetUnit:
		t.forget(at, t.sets[at].Clear())
		t.units[at].Reset()
	default:
		return notKnown
	}
	return done
}

// forget: tasks that are gone from a unit's set are jobs no more, and get no answer.
func (t *Target) forget(at int, gone []task.Task) {
	var left []job
	for _, j := range t.jobs {
		if j.unit != at || !slices.ContainsFunc(gone, j.is) {
			left = append(left, j)
		} else if c := t.conns[j.conn]; c != nil {
			c.session.Forget(j.work.Tag)
		}
	}
	t.jobs = left
}

// enter makes a command a job, unless its unit's set refuses its task.
func (t *Target) enter(j job) {
	status, e := t.sets[j.unit].Enter(task.Task{Nexus: j.nexus, Tag: j.work.Tag, Attr: j.work.Attr})
	switch {
	case e != api.OK:
		t.end(j.conn, j.work.Tag, api.Result{Status: api.Aborted}, t.units[j.unit])
	case status != api.Good:
		t.end(j.conn, j.work.Tag, api.Result{Status: status}, t.units[j.unit])
	default:
		t.jobs = append(t.jobs, j)
	}
}

// end has the answer to a command go out, if there is still somebody who gets it.
func (t *Target) end(n int, tag uint32, r api.Result, u *unit.Unit) {
	if c := t.conns[n]; c != nil {
		c.send(c.session.End(tag, r, u.Described())...)
	}
}

// ready tells the places of the jobs whose tasks may start, in their order.
func (t *Target) ready() []int {
	var may [][]task.Task
	for _, set := range t.sets {
		may = append(may, set.Ready())
	}
	var places []int
	for at, j := range t.jobs {
		if slices.ContainsFunc(may[j.unit], j.is) {
			places = append(places, at)
		}
	}
	return places
}

// step runs one of the jobs whose tasks may start.
func (t *Target) step(pick int) api.Errno {
	if pick < 0 {
		return api.ErrArg
	}
	places := t.ready()
	if len(places) == 0 {
		return api.ErrNone
	}
	at := places[pick%len(places)]
	j := t.jobs[at]
	t.jobs = slices.Delete(t.jobs, at, at+1)
	t.run(j)
	return api.OK
}

// run carries a job's command out, and tells its answer.
func (t *Target) run(j job) {
	set, u := t.sets[j.unit], t.units[j.unit]
	// Neither of the two has anything to refuse: the task may start.
	set.Start(j.nexus, j.work.Tag)
	r := u.Do(j.nexus, j.work.CDB, j.work.Out)
	set.End(j.nexus, j.work.Tag)
	t.end(j.conn, j.work.Tag, r, u)
}
