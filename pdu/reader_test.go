package pdu

import (
	"bytes"
	"math/rand"
	"testing"

	"pallet/api"
)

func wantHeld(t *testing.T, r *Reader, wanted int) {
	t.Helper()
	if got := r.Held(); got != wanted {
		t.Fatalf("Held = %d; want %d", got, wanted)
	}
}

func wantNext(t *testing.T, r *Reader, wanted api.PDU) {
	t.Helper()
	if got, e := r.Next(); !alike(got, wanted) || e != api.OK {
		t.Fatalf("Next = %x, %d; want %x", got, e, wanted)
	}
}

func wantNoNext(t *testing.T, r *Reader, wanted api.Errno) {
	t.Helper()
	if got, e := r.Next(); !alike(got, api.PDU{}) || e != wanted {
		t.Fatalf("Next = %x, %d; want %d", got, e, wanted)
	}
}

// P17.3

func TestNewReader(t *testing.T) {
	r := New()
	wantHeld(t, r, 0)
	wantNoNext(t, r, api.ErrNone)
	r.Feed(nil)
	r.Feed([]byte{})
	wantHeld(t, r, 0)
	wantNoNext(t, r, api.ErrNone)
	// At first there are no sums.
	r.Feed(exampleBytes())
	wantHeld(t, r, 52)
	wantNext(t, r, example())
	wantHeld(t, r, 0)
	wantNoNext(t, r, api.ErrNone)
}

func TestNilReader(t *testing.T) {
	var r *Reader
	r.Digests(true, true)
	r.Feed(exampleBytes())
	wantHeld(t, r, 0)
	wantNoNext(t, r, api.ErrNone)
	r.Feed(nil)
	r.Digests(false, false)
	wantNoNext(t, r, api.ErrNone)
	wantHeld(t, r, 0)
}

func TestReadersAreApart(t *testing.T) {
	a, b := New(), New()
	a.Feed(exampleBytes())
	a.Digests(true, true)
	wantHeld(t, b, 0)
	b.Feed(exampleBytes())
	wantNext(t, b, example())
	wantHeld(t, a, 52)
	wantNoNext(t, a, api.ErrSum)
	b.Feed(exampleBytes())
	wantNext(t, b, example())
}

func TestByteByByte(t *testing.T) {
	for _, n := range []int{0, 1, 5, 300} {
		for _, s := range sums() {
			r := New()
			r.Digests(s[0], s[1])
			for range 3 {
				p := modelBytes(full(n), s[0], s[1], 0)
				for at := range p {
					wantHeld(t, r, at)
					wantNoNext(t, r, api.ErrNone)
					wantHeld(t, r, at)
					r.Feed(p[at : at+1])
				}
				wantHeld(t, r, len(p))
				wantNext(t, r, full(n))
			}
			wantHeld(t, r, 0)
		}
	}
}

func TestSeveralInOneFeed(t *testing.T) {
	var stream []byte
	for n := range 10 {
		stream = append(stream, modelBytes(full(n), false, false, 0)...)
	}
	r := New()
	r.Feed(append(stream, 0x01, 0x02))
	left := len(stream) + 2
	for n := range 10 {
		wantHeld(t, r, left)
		wantNext(t, r, full(n))
		left -= len(modelBytes(full(n), false, false, 0))
	}
	wantHeld(t, r, 2)
	wantNoNext(t, r, api.ErrNone)
	wantHeld(t, r, 2)
}

func TestAsMuchDataAsMayBe(t *testing.T) {
	for _, s := range sums() {
		r := New()
		r.Digests(s[0], s[1])
		p := modelBytes(full(api.MaxData), s[0], s[1], 0)
		r.Feed(p[:len(p)-1])
		wantNoNext(t, r, api.ErrNone)
		r.Feed(p[len(p)-1:])
		r.Feed(p)
		wantNext(t, r, full(api.MaxData))
		wantNext(t, r, full(api.MaxData))
		wantHeld(t, r, 0)
	}
	r := New()
	p := make([]byte, 48)
	copy(p[5:], []byte{0x00, 0x20, 0x01})
	r.Feed(p)
	wantNoNext(t, r, api.ErrForm)
}

func TestSumsSwitchedMidway(t *testing.T) {
	for _, from := range sums() {
		for _, to := range sums() {
			r := New()
			r.Digests(from[0], from[1])
			// What waits already is looked at anew, too.
			r.Feed(modelBytes(full(5), from[0], from[1], 0))
			r.Feed(modelBytes(full(6), to[0], to[1], 0))
			r.Feed(modelBytes(full(7), from[0], from[1], 0))
			wantNext(t, r, full(5))
			r.Digests(true, true)
			r.Digests(to[0], to[1])
			wantNext(t, r, full(6))
			r.Digests(from[0], from[1])
			wantNext(t, r, full(7))
			wantHeld(t, r, 0)
		}
	}
}

// Digests holds from the next Next on, also for bytes that a Next has found too few before.
func TestSumsSwitchedWithinAPDU(t *testing.T) {
	p := modelBytes(full(0), false, false, 0)
	r := New()
	r.Feed(p[:47])
	wantNoNext(t, r, api.ErrNone)
	r.Digests(true, false)
	r.Feed(p[47:])
	wantNoNext(t, r, api.ErrNone)
	r.Digests(false, false)
	wantNext(t, r, full(0))
	p = modelBytes(full(3), true, true, 0)
	r.Feed(p)
	r.Digests(true, true)
	wantNext(t, r, full(3))
	wantHeld(t, r, 0)
}

// fault is bytes, looked at with these sums, and what Next tells of them.
type fault struct {
	what          string
	headers, data bool
	p             []byte
	wanted        api.Errno
}

// faults has bytes of which Next tells that something is wrong; those of heads first.
func faults() []fault {
	form, sum, body, behind := modelBytes(full(5), false, false, 0), modelBytes(full(5), true, false, 0),
		modelBytes(full(5), false, true, 0), modelBytes(full(5), false, false, 7)
	form[15]++
	sum[51]++
	body[len(body)-1]++
	return []fault{
		{"a byte of the head", false, false, form, api.ErrForm},
		{"the head's sum", true, false, sum, api.ErrSum},
		{"the body's sum", false, true, body, api.ErrSum},
		{"a byte behind the data", false, false, behind, api.ErrForm},
	}
}

func TestFaultStays(t *testing.T) {
	for _, x := range faults() {
		r := New()
		r.Digests(x.headers, x.data)
		good := modelBytes(full(9), x.headers, x.data, 0)
		r.Feed(good)
		r.Feed(x.p)
		r.Feed(good)
		wantNext(t, r, full(9))
		// Nothing is wrong before Next has looked.
		wantHeld(t, r, len(x.p)+len(good))
		wantNoNext(t, r, x.wanted)
		for range 3 {
			wantHeld(t, r, 0)
			r.Feed(good)
			wantHeld(t, r, 0)
			wantNoNext(t, r, x.wanted)
			r.Feed(nil)
			r.Digests(!x.headers, !x.data)
			r.Feed(modelBytes(full(9), !x.headers, !x.data, 0))
			wantNoNext(t, r, x.wanted)
		}
		wantHeld(t, r, 0)
	}
}

// A fault of the head is told before its body has come.
func TestFaultOfTheHeadAlone(t *testing.T) {
	for _, x := range faults()[:2] {
		r := New()
		r.Digests(x.headers, x.data)
		end := 48
		if x.headers {
			end = 52
		}
		r.Feed(x.p[:end-1])
		wantNoNext(t, r, api.ErrNone)
		wantHeld(t, r, end-1)
		r.Feed(x.p[end-1 : end])
		wantNoNext(t, r, x.wanted)
		wantHeld(t, r, 0)
	}
}

// piece is a PDU of a stream, and the sums that it has.
type piece struct {
	p             api.PDU
	headers, data bool
}

// anyStream tells PDUs and their bytes; the last of them may have a fault, which is told.
func anyStream(r *rand.Rand) ([]piece, []byte, api.Errno) {
	var list []piece
	var stream []byte
	s := sums()[0]
	for range r.Intn(8) {
		if r.Intn(3) == 0 {
			s = sums()[r.Intn(4)]
		}
		one := piece{anyPDU(r), s[0], s[1]}
		list = append(list, one)
		stream = append(stream, modelBytes(one.p, s[0], s[1], 0)...)
	}
	if r.Intn(2) == 0 || len(list) == 0 {
		return list, stream, api.ErrNone
	}
	// The sums are those that the last one has.
	last := modelBytes(full(5), s[0], s[1], 9)
	return list, append(stream, last...), api.ErrForm
}

// readAll feeds a stream, cut anyhow, and wants its PDUs in order, and what is told behind them.
func readAll(t *testing.T, r *rand.Rand, list []piece, stream []byte, behind api.Errno) {
	t.Helper()
	reader := New()
	fed := 0
	feed := func() bool {
		if fed == len(stream) {
			return false
		}
		n := 1 + r.Intn(min(len(stream)-fed, 1+r.Intn(150)))
		own := bytes.Clone(stream[fed : fed+n])
		reader.Feed(own)
		spoil(own)
		fed += n
		return true
	}
	read := 0
	for _, one := range list {
		reader.Digests(one.headers, one.data)
		size := len(modelBytes(one.p, one.headers, one.data, 0))
		for fed < read+size || r.Intn(4) == 0 {
			wantHeld(t, reader, fed-read)
			if fed < read+size {
				wantNoNext(t, reader, api.ErrNone)
			}
			if !feed() {
				break
			}
		}
		wantNext(t, reader, one.p)
		read += size
		wantHeld(t, reader, fed-read)
	}
	for feed() {
	}
	wantNoNext(t, reader, behind)
	wantHeld(t, reader, 0)
}

// P8: a stream is told as the same PDUs, however it was cut.
func TestCutAnyhow(t *testing.T) {
	r := rand.New(rand.NewSource(19))
	for range 3000 {
		list, stream, behind := anyStream(r)
		readAll(t, r, list, stream, behind)
		readAll(t, r, list, stream, behind)
	}
}

// Many PDUs that wait are told in a time that grows as their count.
func TestManyWait(t *testing.T) {
	const count = 100000
	p := modelBytes(full(1), false, false, 0)
	r := New()
	r.Feed(bytes.Repeat(p, count))
	for i := range count {
		wantHeld(t, r, (count-i)*len(p))
		wantNext(t, r, full(1))
	}
	wantNoNext(t, r, api.ErrNone)
}

// Memory.

func TestMemoryOfTheReader(t *testing.T) {
	r := New()
	p := modelBytes(full(20), true, true, 0)
	room := append(bytes.Clone(p[:60]), 1, 2, 3)
	ahead := bytes.Clone(room)
	r.Digests(true, true)
	r.Feed(room[:60])
	if !bytes.Equal(room, ahead) {
		t.Errorf("%x became %x", ahead, room)
	}
	spoil(room)
	r.Feed(p[60:])
	r.Feed(p)
	r.Feed(p)
	first, _ := r.Next()
	spoil(first.Data)
	second, _ := r.Next()
	if !alike(second, full(20)) {
		t.Errorf("Next shares memory with an earlier answer: %x", second)
	}
	wantNext(t, r, full(20))
	r.Feed(p)
	r.Feed(bytes.Repeat([]byte{0xff}, 500))
	if !alike(second, full(20)) {
		t.Errorf("an answer was written over by Feed: %x", second)
	}
	wantNext(t, r, full(20))
}
