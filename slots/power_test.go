package slots

import (
	"fmt"
	"math/rand"
	"slices"
	"strings"
	"testing"

	"pallet/api"
	"pallet/world"
)

// P5.5, and P5 of what is kept in slots.

// kept follows what Load may tell behind a loss of power: what the last Save that was told done has saved, or one behind it that failed.
type kept struct {
	may []string
	any bool // a Save was told done
}

func (k *kept) saved(payload string, e api.Errno) {
	if e == api.OK {
		k.may, k.any = nil, true
	}
	k.may = append(k.may, payload)
}

// check holds what slots that are opened anew tell against what they may.
func (k *kept) check(t *testing.T, w *world.World) string {
	t.Helper()
	p, _, e := open(t, w).Load()
	if e == api.ErrNone && !k.any {
		return "none"
	}
	if e != api.OK || !slices.Contains(k.may, string(p)) {
		t.Fatalf("Load = %q, %d; it may be one of %q", p, e, k.may)
	}
	return string(p)
}

// ahead saves so many payloads, and tells what is kept.
func ahead(t *testing.T, w *world.World, s *Slots, saves, length int) *kept {
	t.Helper()
	k := &kept{}
	for i := range saves {
		payload := strings.Repeat(fmt.Sprint(i), length)
		wantSave(t, s, payload, uint64(i+1), api.OK)
		k.saved(payload, api.OK)
	}
	return k
}

// Each call of a Save at which the power may go off, and each beginning of its bytes that may be kept.
func TestPowerOffInASave(t *testing.T) {
	const older = 6 // bytes of the payloads ahead
	for saves := range 4 {
		for _, length := range []int{0, older - 3, older, older + 3} {
			for at := range 4 {
				for cut := range 20 + length + 2 {
					for keep := range 2 {
						offInASave(t, saves, older, length, at, keep, cut)
					}
				}
			}
		}
	}
}

func offInASave(t *testing.T, saves, older, length, at, keep, cut int) {
	t.Helper()
	w := world.New()
	k := ahead(t, w, open(t, w), saves, older)
	s := open(t, w)
	w.Plan(nil, at)
	payload := strings.Repeat("n", length)
	g, e := s.Save([]byte(payload))
	if g != 0 || e != api.ErrCrash {
		t.Fatalf("Save = %d, %d", g, e)
	}
	k.saved(payload, e)
	w.Crash(keep, cut)
	k.check(t, w)
	// The next Save finds its way from whatever stands.
	_, e = s.Save([]byte("further"))
	if e != api.OK {
		t.Fatalf("Save behind the crash: %d", e)
	}
	k.saved("further", e)
	w.Crash(0, 0)
	k.check(t, w)
}

// A Save behind one whose Sync failed: both of their writes wait.
func TestPowerOffBehindASyncThatFailed(t *testing.T) {
	for saves := range 4 {
		for keep := range 4 {
			for cut := range 30 {
				w := world.New()
				s := open(t, w)
				k := ahead(t, w, s, saves, 6)
				s.Load()
				for i, payload := range []string{"failed", "again", "thrice"} {
					// Behind the first one each Save loads, by two more calls.
					w.Plan([]int{1 + 2*min(i, 1)}, -1)
					_, e := s.Save([]byte(payload))
					if e != api.ErrIO || w.Waits() != i+1 {
						t.Fatalf("Save: %d, %d changes wait", e, w.Waits())
					}
					k.saved(payload, e)
				}
				w.Crash(keep, cut)
				k.check(t, w)
			}
		}
	}
}

// walk goes any way through Saves, Loads, failures and losses of power beside a file of somebody else, and tells what it saw.
func walk(t *testing.T, seed int64) string {
	t.Helper()
	r := rand.New(rand.NewSource(seed))
	w, k := world.New(), &kept{}
	s := open(t, w)
	var seen strings.Builder
	saves, loaded := 0, false
	for range 60 {
		switch r.Intn(6) {
		case 0, 1:
			saves++
			payload := fmt.Sprint(saves, strings.Repeat("p", r.Intn(40)))
			g, e := s.Save([]byte(payload))
			k.saved(payload, e)
			loaded = false
			fmt.Fprintln(&seen, "save", g, e)
		case 2:
			p, g, e := s.Load()
			loaded = true
			fmt.Fprintln(&seen, "load", string(p), g, e)
		case 3:
			fmt.Fprintln(&seen, "other", w.Write("other", r.Intn(9), make([]byte, r.Intn(9))))
		case 4:
			w.Plan([]int{r.Intn(8), r.Intn(8)}, r.Intn(12)-4)
		case 5:
			w.Crash(r.Intn(4), r.Intn(60))
			fmt.Fprintln(&seen, "crash", k.check(t, w))
			// What a Load told may not have been durable yet: behind a crash slots that go by it are opened anew.
			if loaded {
				s, loaded = open(t, w), false
			}
		}
	}
	w.Crash(r.Intn(4), r.Intn(60))
	fmt.Fprintln(&seen, "crash", k.check(t, w))
	return seen.String()
}

func TestPowerOffAnywhere(t *testing.T) {
	for seed := range int64(5000) {
		first := walk(t, seed)
		if again := walk(t, seed); again != first {
			t.Fatalf("the same calls answer otherwise:\n%s\n%s", first, again)
		}
	}
}
