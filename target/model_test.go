package target

import (
	"bytes"
	"encoding/binary"
	"hash/crc32"
	"maps"
	"math"
	"math/rand"
	"reflect"
	"slices"
	"strconv"
	"testing"

	"pallet/api"
	"pallet/chap"
	"pallet/inq"
	"pallet/login"
	"pallet/pdu"
	"pallet/sess"
	"pallet/text"
	"pallet/unit"
	"pallet/world"
)

// model is the chapter told in another way, over a world of its own: the jobs alone tell which tasks there are, since none is left that has started.
type model struct {
	w     *world.World
	c     Config
	sees  map[[2]int]int
	units []*unit.Unit
	jobs  []modelJob
	conns map[int]*modelConn
	draws int
	n     seen
}

type modelJob struct {
	conn, nexus, unit int
	work              sess.Task
}

type modelConn struct {
	reader *pdu.Reader
	log    *login.Login
	id     byte
	at     *sess.Session
	first  uint32
	nexus  int
	out    []byte
	asked  map[uint32][7]uint32 // the last R2T of each tag
	sent   int                  // how many PDUs of the login were made up
}

// seen counts what came, by names.
type seen map[string]int

func newModel(w *world.World, c Config, n seen) *model {
	m := &model{w: w, c: c, sees: map[[2]int]int{}, n: n}
	for _, a := range c.Access {
		m.sees[[2]int{a.Nexus, a.LUN}] = a.Unit
	}
	m.begin()
	return m
}

func (m *model) begin() {
	m.jobs, m.conns, m.units = nil, map[int]*modelConn{}, nil
	for i, c := range m.c.Units {
		u, e := unit.New(m.w, "u"+strconv.Itoa(i), c)
		if e != api.OK {
			panic(e)
		}
		m.units = append(m.units, u)
	}
	for i, u := range m.units {
		u.Peers(slices.Delete(slices.Clone(m.units), i, i+1))
	}
}

func (m *model) do(e Event) api.Errno {
	switch e.Kind {
	case 1, 2, 4:
		c := m.conns[e.Conn]
		switch {
		case e.Conn < 0 || e.Conn > 7:
			return api.ErrArg
		case e.Kind == 1 && c != nil:
			return api.ErrExists
		case e.Kind == 1:
			m.conns[e.Conn] = &modelConn{reader: pdu.New(), nexus: -1, asked: map[uint32][7]uint32{}}
		case c == nil:
			return api.ErrNone
		case e.Kind == 2:
			c.reader.Feed(e.Data)
			for m.conns[e.Conn] == c && m.next(e.Conn, c) {
			}
		default:
			m.gone(e.Conn)
		}
		return api.OK
	case 3:
		return m.step(e.Pick)
	case 5:
		if len(m.jobs) > 0 {
			m.n["crash with jobs"]++
		}
		m.w.Crash(e.Pick, e.Cut)
		m.begin()
		return api.OK
	}
	return api.ErrArg
}

func (m *model) gone(n int) {
	nexus := m.conns[n].nexus
	delete(m.conns, n)
	before := len(m.jobs)
	m.jobs = slices.DeleteFunc(m.jobs, func(j modelJob) bool { return nexus >= 0 && j.nexus == nexus })
	if len(m.jobs) < before {
		m.n["gone with jobs"]++
	}
}

// next does one PDU, if there is a whole one.
func (m *model) next(n int, c *modelConn) bool {
	p, e := c.reader.Next()
	switch {
	case e == api.ErrNone:
		return false
	case e != api.OK:
		m.n["fault"]++
		m.gone(n)
	case c.at == nil:
		m.login(n, c, p)
	default:
		m.serve(n, c, p)
	}
	return true
}

func (m *model) serve(n int, c *modelConn, p api.PDU) {
	out, tasks := c.at.In(p)
	m.tell(c, out)
	for _, work := range tasks {
		m.task(n, c, work)
	}
	if c.at.Over() {
		m.n["logout"]++
		m.gone(n)
	}
}

// tell lays PDUs behind what went out, byte by byte.
func (m *model) tell(c *modelConn, list []api.PDU) {
	var sums [2]bool
	if c.at != nil {
		sums = [2]bool{c.log.Params().Headers, c.log.Params().Data}
	}
	for _, p := range list {
		m.n["out "+strconv.FormatInt(int64(p.Op), 16)]++
		if p.Op == 0x31 {
			c.asked[p.Tag] = p.Words
		}
		if p.Op == 0x21 {
			m.n["status "+strconv.FormatInt(int64(p.Stat), 16)]++
		}
		c.out = append(c.out, bytesWith(p, sums)...)
	}
}

func bytesWith(p api.PDU, sums [2]bool) []byte {
	table := crc32.MakeTable(crc32.Castagnoli)
	b := []byte{p.Op, p.Flags, p.Res, p.Stat, 0, byte(len(p.Data) >> 16), byte(len(p.Data) >> 8), byte(len(p.Data)), 0, p.LUN, 0, 0, 0, 0, 0, 0}
	b = binary.BigEndian.AppendUint32(b, p.Tag)
	for _, word := range p.Words {
		b = binary.BigEndian.AppendUint32(b, word)
	}
	if sums[0] {
		b = binary.BigEndian.AppendUint32(b, crc32.Checksum(b, table))
	}
	body := slices.Clone(p.Data)
	for len(body)%4 > 0 {
		body = append(body, 0)
	}
	b = append(b, body...)
	if sums[1] && len(body) > 0 {
		b = binary.BigEndian.AppendUint32(b, crc32.Checksum(body, table))
	}
	return b
}

func (m *model) login(n int, c *modelConn, p api.PDU) {
	pairs, e := text.Parse(p.Data)
	if e != api.OK || p.Op != 0x43 {
		m.n["no login"]++
		m.gone(n)
		return
	}
	if c.log == nil {
		m.draws++
		c.id, c.first = byte(m.draws%256), p.Words[1]
		c.log = login.New(m.c.Login, c.id, m.challenge(c.id))
	}
	a, _ := c.log.Step(login.Request{Stage: p.Flags / 4 % 4, Next: p.Flags % 4, Transit: p.Flags >= 0x80, Keys: pairs})
	who := c.log.Params()
	nexus := slices.Index(m.c.Initiators, who.Initiator)
	if a.Class == 0 && nexus == -1 {
		m.n["stranger"]++
		a = login.Answer{Class: 2, Detail: 2}
	}
	answer := api.PDU{Op: 0x23, Flags: a.Stage * 4, Tag: p.Tag, Words: [7]uint32{2: c.first, 3: c.first + 15, 4: uint32(a.Class)*1<<24 + uint32(a.Detail)*1<<16}}
	if a.Transit {
		answer.Flags += 0x80 + a.Next
	}
	twice := map[string]bool{}
	for _, pair := range a.Keys {
		answer.Data = append(answer.Data, pair.Key+"="+pair.Value+"\x00"...)
		twice[pair.Key] = true
	}
	if len(twice) < len(a.Keys) {
		m.n["no text"]++
		answer.Data = nil
	}
	m.tell(c, []api.PDU{answer})
	switch {
	case a.Class > 0:
		m.n["failed"]++
		m.gone(n)
	case c.log.Done():
		m.session(n, c, who, nexus)
	}
}

func (m *model) challenge(id byte) []byte { return []byte{id, id ^ 0x5a, 0xc3} }

func (m *model) session(n int, c *modelConn, who login.Params, nexus int) {
	if who.Discovery {
		m.n["discovery"]++
	} else {
		m.n["in"]++
		for other := range 8 {
			if other != n && m.conns[other] != nil && m.conns[other].nexus == nexus {
				m.n["second"]++
				m.gone(other)
			}
		}
		c.nexus = nexus
	}
	if who.Headers || who.Data {
		m.n["sums"]++
	}
	c.at = sess.New(who, m.c.Login.Targets, c.first)
	c.reader.Digests(who.Headers, who.Data)
}

func (m *model) end(c *modelConn, tag uint32, r api.Result, described bool) {
	if c != nil {
		m.tell(c, c.at.End(tag, r, described))
	}
}

func (m *model) task(n int, c *modelConn, work sess.Task) {
	u, seesIt := m.sees[[2]int{c.nexus, int(work.LUN)}]
	switch {
	case work.CDB == nil:
		m.function(c, work, u, seesIt)
	case work.CDB[0] == 0xa0:
		m.n["luns"]++
		var list []int
		for lun := range 8 {
			if _, ok := m.sees[[2]int{c.nexus, lun}]; ok {
				list = append(list, lun)
			}
		}
		data := inq.Luns(list)
		data = data[:min(uint64(len(data)), uint64(binary.BigEndian.Uint32(work.CDB[6:])))]
		m.end(c, work.Tag, api.Result{Data: data}, false)
	case !seesIt:
		m.n["no unit"]++
		m.end(c, work.Tag, api.Result{Status: 2, Sense: api.Sense{Key: 5, Code: 0x2500}}, false)
	case work.Attr == api.ForACA:
		m.end(c, work.Tag, api.Result{Status: 0x30}, false)
	case len(m.of(u)) == 16:
		m.end(c, work.Tag, api.Result{Status: 0x28}, false)
	default:
		m.jobs = append(m.jobs, modelJob{n, c.nexus, u, work})
	}
}

// of tells the jobs of a unit.
func (m *model) of(u int) []modelJob {
	var list []modelJob
	for _, j := range m.jobs {
		if j.unit == u {
			list = append(list, j)
		}
	}
	return list
}

func (m *model) function(c *modelConn, work sess.Task, u int, seesIt bool) {
	code, goes := byte(5), func(modelJob) bool { return false }
	switch {
	case !seesIt:
		code = 2
	case work.Func == 1:
		code = 1
		goes = func(j modelJob) bool { return j.nexus == c.nexus && j.work.Tag == work.Ref }
	case work.Func == 2:
		code = 0
		goes = func(j modelJob) bool { return j.nexus == c.nexus }
	case work.Func == 5:
		code = 0
		goes = func(modelJob) bool { return true }
		m.units[u].Reset()
	}
	for _, j := range m.of(u) {
		if goes(j) {
			m.n["gone by "+strconv.Itoa(int(work.Func))]++
			code = 0
			m.jobs = slices.DeleteFunc(m.jobs, func(one modelJob) bool { return one.nexus == j.nexus && one.work.Tag == j.work.Tag })
			if other := m.conns[j.conn]; !other.at.Forget(j.work.Tag) {
				panic("a job whose session knows nothing of it")
			}
		}
	}
	m.n["told "+strconv.Itoa(int(code))]++
	m.tell(c, c.at.Told(work.Tag, code))
}

// ready tells the places of the jobs that may run.
func (m *model) ready() []int {
	var places []int
	for at, j := range m.jobs {
		heads, ordered, ahead := 0, 0, 0
		for other, one := range m.jobs {
			if one.unit != j.unit {
				continue
			}
			if one.work.Attr == api.Head {
				heads++
			}
			if other < at {
				ahead++
				if one.work.Attr == api.Ordered {
					ordered++
				}
			}
		}
		may := heads == 0 && ordered == 0
		switch j.work.Attr {
		case api.Head:
			may = true
		case api.Ordered:
			may = heads == 0 && ahead == 0
		}
		if may {
			places = append(places, at)
		}
	}
	if len(places) < len(m.jobs) {
		m.n["not all may run"]++
	}
	return places
}

func (m *model) step(pick int) api.Errno {
	places := m.ready()
	switch {
	case pick < 0:
		return api.ErrArg
	case len(places) == 0:
		return api.ErrNone
	}
	if pick >= len(places) {
		m.n["far picks"]++
	}
	at := places[pick%len(places)]
	j := m.jobs[at]
	m.jobs = slices.Concat(m.jobs[:at:at], m.jobs[at+1:])
	r := m.units[j.unit].Do(j.nexus, j.work.CDB, j.work.Out)
	m.end(m.conns[j.conn], j.work.Tag, r, m.units[j.unit].Described())
	return api.OK
}

// What comes, at random.

func pick[T any](r *rand.Rand, list ...T) T { return list[r.Intn(len(list))] }

func anyConfig(r *rand.Rand) Config {
	c := Config{Login: login.Config{Targets: []string{"t", "u"}, Sums: r.Intn(2) == 0}}
	for i := range 1 + r.Intn(3) {
		one := unitConfig("S"+strconv.Itoa(i), 4+r.Intn(5))
		one.Info.Prot = byte(r.Intn(2))
		c.Units = append(c.Units, one)
	}
	for i := range 1 + r.Intn(4) {
		c.Initiators = append(c.Initiators, "i"+strconv.Itoa(i))
		for lun := range 8 {
			if r.Intn(8) < 8-lun {
				c.Access = append(c.Access, Access{i, lun, r.Intn(len(c.Units))})
			}
		}
	}
	r.Shuffle(len(c.Access), func(i, j int) { c.Access[i], c.Access[j] = c.Access[j], c.Access[i] })
	if r.Intn(3) == 0 {
		c.Login.Users = []login.User{{Name: "u", Secret: "s"}, {Name: "v", Secret: "w"}}
	}
	return c
}

// anyLogin tells a PDU of a login, mostly the one that is due.
func (m *model) anyLogin(r *rand.Rand, c *modelConn) api.PDU {
	who := "InitiatorName=i" + strconv.Itoa(r.Intn(len(m.c.Initiators)+r.Intn(8)/7))
	about := pick(r, "TargetName=t", "TargetName=t", "TargetName=t", "TargetName=u", "SessionType=Discovery")
	if r.Intn(30) == 0 {
		about = pick(r, "TargetName=v", "SessionType=x", "InitiatorAlias=a")
	}
	more := pick(r, "X=1", "MaxRecvDataSegmentLength=512", "HeaderDigest=CRC32C,None", "DataDigest=CRC32C,None", "ImmediateData=No", "MaxBurstLength=512", "CHAP_I=9")
	var p api.PDU
	switch step := c.sent; {
	case len(m.c.Login.Users) > 0 && step == 0:
		p = loginReq(0, who, about, "AuthMethod=CHAP", more)
	case len(m.c.Login.Users) > 0 && step == 1:
		p = loginReq(0, pick(r, []string{"CHAP_A=5"}, []string{"CHAP_A=5"}, []string{"CHAP_A=5", "CHAP_I=1"})...)
	case len(m.c.Login.Users) > 0 && step == 2:
		secret := pick(r, "s", "s", "s", "s", "w")
		p = loginReq(pick[byte](r, 0x83, 0x81), "CHAP_N=u", "CHAP_R="+chap.Answer(c.id, secret, m.challenge(c.id)))
	case step == 0:
		p = loginReq(pick[byte](r, 0x87, 0x87, 0x83, 0x04, 0x00, 0x81), who, about, more)
	default:
		p = loginReq(pick[byte](r, 0x87, 0x83, 0x04), more)
	}
	c.sent++
	p.Tag, p.Words[1] = r.Uint32(), pick(r, 5, math.MaxUint32-2, r.Uint32())
	switch r.Intn(40) {
	case 0:
		p.Op = byte(r.Uint32())
	case 1:
		p.Data = p.Data[:r.Intn(len(p.Data))]
	case 2:
		p.Flags = byte(r.Uint32())
	}
	return p
}

// anyCommand tells bytes of a command, and how many bytes come with it or are wanted.
func anyCommand(r *rand.Rand) ([]byte, []byte, int) {
	block := byte(r.Intn(6))
	switch r.Intn(12) {
	case 0:
		return ready, nil, 0
	case 1:
		return inquiry, nil, 36
	case 2, 3:
		return read(block, 2), nil, pick(r, 32, 32, 16, 40)
	case 4:
		return write(block, 1), fill(byte(r.Uint32()), 16), 0
	case 5:
		return writeFUA(block, 1), fill(byte(r.Uint32()), 16), 0
	case 6:
		return luns, nil, 255
	case 7:
		return prOut(6, 0), keys(0, byte(1+r.Intn(3)), r.Intn(2) == 0), 0
	case 8:
		return prOut(pick[byte](r, 1, 2, 3), pick[byte](r, 1, 3, 5)), keys(byte(1+r.Intn(3)), 0, false), 0
	case 9:
		cdb, out := describe()
		out[6] = pick[byte](r, 0, 4)
		return cdb, out, 0
	case 10:
		cdb := slices.Clone(luns)
		cdb[8], cdb[9] = 0, byte(r.Intn(20))
		return cdb, nil, 255
	}
	return []byte{pick[byte](r, 0x35, 0x25, 0x5e, 0x1a, 0xff)}, nil, 8
}

// anyPDU tells a PDU of a session, the at-th of several that come together.
func (m *model) anyPDU(r *rand.Rand, c *modelConn, at int) api.PDU {
	var p api.PDU
	lun, tag := byte(r.Intn(3)), uint32(r.Intn(60))
	if r.Intn(6) == 0 {
		lun = byte(r.Intn(10))
	}
	switch r.Intn(20) {
	case 0:
		p = nop(tag)
	case 1:
		p = function(lun, tag, pick[byte](r, 1, 1, 1, 1, 1, 1, 1, 2, 2, 5, 0, 3, 127), uint32(r.Intn(60)))
		if len(m.jobs) > 0 && r.Intn(2) == 0 {
			j := pick(r, m.jobs...)
			p.LUN, p.Words[0] = j.work.LUN, j.work.Tag
		}
	case 2:
		p = api.PDU{Op: 0x44, Flags: 0x80, Tag: tag, Data: []byte(pick(r, "SendTargets=All\x00", "SendTargets=\x00", "X=1\x00", "x"))}
	case 3:
		if p = logout(tag); r.Intn(3) > 0 {
			p = api.PDU{Op: byte(r.Uint32()), Tag: tag}
		}
	case 4, 5:
		for _, asked := range slices.Sorted(maps.Keys(c.asked)) {
			if words := c.asked[asked]; r.Intn(2) == 0 {
				return api.PDU{Op: 5, Flags: 0x80, Tag: asked, Words: [7]uint32{words[0], 0, 0, 0, 0, words[5]}, Data: fill(byte(tag), int(words[6]))}
			}
		}
		p = api.PDU{Op: 5, Tag: tag}
	default:
		cdb, out, want := anyCommand(r)
		flags := pick[byte](r, 1, 1, 1, 1, 1, 0, 2, 3, 4)
		if len(out) == 0 {
			p = command(lun, tag, flags|reads, want, cdb)
		} else {
			p = command(lun, tag, flags|writes, len(out), cdb, out[:pick(r, len(out), len(out), 8, 0)]...)
		}
	}
	if r.Intn(2) == 0 {
		p.Op &^= 0x40
		p.Words[1] = c.at.Next() + uint32(at) + uint32(r.Intn(12)/11)
	}
	return p
}

// bytesFor tells bytes that may come over a connection.
func (m *model) bytesFor(r *rand.Rand, c *modelConn) []byte {
	if c.at == nil {
		return bytesWith(m.anyLogin(r, c), [2]bool{})
	}
	var all []byte
	for at := range pick(r, 1, 1, 2, 4) {
		all = append(all, bytesWith(m.anyPDU(r, c, at), [2]bool{c.log.Params().Headers, c.log.Params().Data})...)
	}
	if r.Intn(200) == 0 {
		all[r.Intn(len(all))] ^= byte(1 + r.Intn(255))
	}
	return all
}

// feeder has what is still to come over each connection.
type feeder struct {
	to   map[int]*modelConn
	rest map[int][]byte
}

func (f feeder) event(r *rand.Rand, m *model, n int) Event {
	c := m.conns[n]
	if c == nil {
		return Event{Kind: pick(r, Connect, Connect, Connect, Connect, Bytes, Drop), Conn: n, Data: fill(1, 3)}
	}
	if f.to[n] != c {
		f.to[n], f.rest[n] = c, nil
	}
	if len(f.rest[n]) == 0 {
		f.rest[n] = m.bytesFor(r, c)
	}
	size := len(f.rest[n])
	if r.Intn(4) == 0 {
		size = r.Intn(size + 1)
	}
	data := f.rest[n][:size]
	f.rest[n] = f.rest[n][size:]
	return Event{Kind: Bytes, Conn: n, Data: data}
}

func TestAsModel(t *testing.T) {
	n := seen{}
	for seed := range int64(1000) {
		runBeside(t, rand.New(rand.NewSource(seed)), n)
		if t.Failed() {
			t.Fatalf("seed %d", seed)
		}
	}
	for _, what := range []string{"crash with jobs", "gone with jobs", "fault", "logout", "no login", "stranger", "no text", "failed", "discovery", "in", "second", "sums",
		"luns", "no unit", "gone by 1", "gone by 2", "gone by 5", "told 0", "told 1", "told 2", "told 5", "not all may run", "far picks",
		"out 20", "out 21", "out 22", "out 23", "out 24", "out 25", "out 31", "out 3f", "status 0", "status 2", "status 18", "status 28", "status 30"} {
		if n[what] < 30 {
			t.Errorf("%s came %d times", what, n[what])
		}
	}
}

// runBeside has the same events happen to a target and to the model.
func runBeside(t *testing.T, r *rand.Rand, n seen) {
	t.Helper()
	c := anyConfig(r)
	w, modelWorld := world.New(), world.New()
	x, e := New(w, c)
	if e != api.OK {
		t.Fatalf("New(%+v) = %d", c, e)
	}
	m := newModel(modelWorld, c, n)
	f := feeder{map[int]*modelConn{}, map[int][]byte{}}
	stepping := pick(r, 0, 1, 3, 6)
	for range 300 {
		var event Event
		switch at := r.Intn(20); {
		case at < stepping:
			event = Event{Kind: Step, Pick: pick(r, 0, 0, 1, 2, 7, 100, math.MaxInt, -1)}
		case r.Intn(60) == 0:
			event = Event{Kind: Drop, Conn: r.Intn(4)}
		case r.Intn(120) == 0:
			event = Event{Kind: Crash, Pick: r.Intn(4), Cut: r.Intn(40)}
		case r.Intn(100) == 0:
			event = Event{Kind: byte(r.Intn(8)), Conn: pick(r, -1, 8, 7, 0), Pick: -1}
		case r.Intn(100) == 0:
			fails, stop := []int{r.Intn(4), r.Intn(4)}, r.Intn(9)-6
			w.Plan(fails, stop)
			modelWorld.Plan(fails, stop)
			continue
		default:
			event = f.event(r, m, pick(r, 0, 1, 2, 3))
		}
		wanted := m.do(event)
		event.Data = slices.Clone(event.Data)
		if got := x.Do(event); got != wanted {
			t.Errorf("Do(%v) = %d; want %d", event, got, wanted)
		}
		for at := range event.Data {
			event.Data[at] = 0xaa
		}
		if sameAs(t, x, m); t.Failed() {
			t.Fatalf("behind %v", event)
		}
	}
	if w.Ops() != modelWorld.Ops() || w.Waits() != modelWorld.Waits() || w.Off() != modelWorld.Off() {
		t.Errorf("the files were called otherwise")
	}
	sameFiles(t, w, modelWorld)
}

// sameAs holds all that a target tells against the model.
func sameAs(t *testing.T, x *Target, m *model) {
	t.Helper()
	for n := -1; n < 9; n++ {
		var out []byte
		nexus := -1
		if c := m.conns[n]; c != nil {
			out, nexus = c.out, c.nexus
		}
		if got := x.Out(n); !bytes.Equal(got, out) || x.Nexus(n) != nexus {
			t.Errorf("Out(%d) = %x, Nexus %d; want %x, %d", n, got, x.Nexus(n), out, nexus)
		}
	}
	if got, wanted := x.Ready(), len(m.ready()); got != wanted {
		t.Errorf("Ready() = %d; want %d", got, wanted)
	}
	for i, u := range m.units {
		got := x.Unit(i)
		regs, kind, holder := got.Table()
		wantRegs, wantKind, wantHolder := u.Table()
		if got.Count() != u.Count() || got.Described() != u.Described() || kind != wantKind || holder != wantHolder ||
			len(regs)+len(wantRegs) > 0 && !reflect.DeepEqual(regs, wantRegs) {
			t.Errorf("the unit %d: %d commands, %v, %v, %d, %d", i, got.Count(), got.Described(), regs, kind, holder)
		}
	}
}

func sameFiles(t *testing.T, a, b *world.World) {
	t.Helper()
	a.Crash(math.MaxInt, 0)
	b.Crash(math.MaxInt, 0)
	if !slices.Equal(a.Names(), b.Names()) {
		t.Errorf("the files are %v; want %v", a.Names(), b.Names())
	}
	for _, name := range a.Names() {
		p, _ := a.Read(name, 0, api.MaxFile)
		q, _ := b.Read(name, 0, api.MaxFile)
		if !bytes.Equal(p, q) {
			t.Errorf("%s is %x; want %x", name, p, q)
		}
	}
}
