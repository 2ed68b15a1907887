package target

import (
	"math"
	"slices"
	"strings"
	"testing"

	"pallet/api"
	"pallet/inq"
	"pallet/login"
	"pallet/unit"
	"pallet/world"
)

// P22.1: New.

func wantNew(t *testing.T, what string, w *world.World, c Config, wanted api.Errno) {
	t.Helper()
	x, e := New(w, c)
	if e != wanted || (x == nil) != (wanted != api.OK) {
		t.Errorf("%s: New = %v, %d; want %d", what, x, e, wanted)
	}
}

// units tells the Configs of n units.
func units(n int) []unit.Config {
	var list []unit.Config
	for at := range n {
		list = append(list, unitConfig(string(rune('A'+at)), 1+at))
	}
	return list
}

func names(n int) []string {
	var list []string
	for at := range n {
		list = append(list, "i"+strings.Repeat("x", at))
	}
	return list
}

func TestNewHasNothing(t *testing.T) {
	r := newRig(t, usual())
	r.wantNexus()
	r.wantReady(0)
	for n := range api.MaxNexus {
		r.wantThere(n, false)
	}
	if r.w.Ops() != 0 || len(r.w.Names()) != 0 {
		t.Errorf("the files were looked at")
	}
	if e := r.Do(Event{Kind: Step}); e != api.ErrNone {
		t.Errorf("Step = %d", e)
	}
}

func TestNewUnits(t *testing.T) {
	for n := range 12 {
		wanted := api.OK
		if n < 1 || n > 8 {
			wanted = api.ErrArg
		}
		wantNew(t, "units", world.New(), Config{Units: units(n)}, wanted)
		x, _ := New(world.New(), Config{Units: units(n)})
		for i := -2; i < 14; i++ {
			there := wanted == api.OK && i >= 0 && i < n
			if (x.Unit(i) != nil) != there {
				t.Errorf("of %d units: Unit(%d) = %v", n, i, x.Unit(i))
			}
		}
	}
	x, _ := New(world.New(), Config{Units: units(2)})
	if x.Unit(math.MinInt) != nil || x.Unit(math.MaxInt) != nil {
		t.Errorf("units far off are there")
	}
}

func TestNewInitiators(t *testing.T) {
	for n := range 12 {
		wanted := api.OK
		if n > 8 {
			wanted = api.ErrArg
		}
		wantNew(t, "initiators", world.New(), Config{Units: units(1), Initiators: names(n)}, wanted)
	}
}

func TestNewBlocks(t *testing.T) {
	for _, at := range []int{0, 1, 7} {
		for blocks, wanted := range map[int]api.Errno{math.MinInt: 1, -1: 1, 0: 1, 1: 0, 2: 0, 4095: 0, 4096: 0, 4097: 1, math.MaxInt: 1} {
			c := Config{Units: units(8)}
			c.Units[at].Blocks = blocks
			wantNew(t, "blocks", world.New(), c, wanted)
		}
	}
}

func TestNewNames(t *testing.T) {
	for _, one := range []struct {
		names  []string
		wanted api.Errno
	}{
		{[]string{"i"}, api.OK},
		{[]string{""}, api.ErrForm},
		{[]string{"i", ""}, api.ErrForm},
		{[]string{"i", "i"}, api.ErrForm},
		{[]string{"i", "j", "k", "l", "m", "n", "o", "i"}, api.ErrForm},
		{[]string{"i", "j", "j"}, api.ErrForm},
		{[]string{"i", "I", "i ", "\x00", "\xff", strings.Repeat("i", 1000)}, api.OK},
	} {
		wantNew(t, strings.Join(one.names, ","), world.New(), Config{Units: units(1), Initiators: one.names}, one.wanted)
	}
}

func TestNewAccess(t *testing.T) {
	for _, one := range []struct {
		what   string
		access []Access
		wanted api.Errno
	}{
		{"none", nil, api.OK},
		{"one", []Access{{0, 0, 0}}, api.OK},
		{"the last ones", []Access{{2, 7, 1}}, api.OK},
		{"a nexus below 0", []Access{{-1, 0, 0}}, api.ErrForm},
		{"a nexus too many", []Access{{3, 0, 0}}, api.ErrForm},
		{"a nexus far off", []Access{{math.MaxInt, 0, 0}}, api.ErrForm},
		{"a number below 0", []Access{{0, -1, 0}}, api.ErrForm},
		{"a number too high", []Access{{0, 8, 0}}, api.ErrForm},
		{"a number far off", []Access{{0, math.MinInt, 0}}, api.ErrForm},
		{"a unit below 0", []Access{{0, 0, -1}}, api.ErrForm},
		{"a unit too many", []Access{{0, 0, 2}}, api.ErrForm},
		{"a unit far off", []Access{{0, 0, math.MaxInt}}, api.ErrForm},
		{"behind a right one", []Access{{0, 0, 0}, {0, 1, 2}}, api.ErrForm},
		{"twice", []Access{{0, 0, 0}, {0, 0, 0}}, api.ErrForm},
		{"two units under one number", []Access{{0, 3, 0}, {1, 3, 0}, {0, 3, 1}}, api.ErrForm},
		{"one unit under two numbers", []Access{{0, 0, 1}, {0, 1, 1}}, api.OK},
		{"two see one", []Access{{0, 0, 1}, {1, 0, 1}}, api.OK},
	} {
		wantNew(t, one.what, world.New(), Config{Units: units(2), Initiators: names(3), Access: one.access}, one.wanted)
	}
	wantNew(t, "no initiators", world.New(), Config{Units: units(2), Access: []Access{{}}}, api.ErrForm)
	var all []Access
	for nexus := range 8 {
		for lun := range 8 {
			all = append(all, Access{nexus, lun, 7 - lun})
		}
	}
	wantNew(t, "all", world.New(), Config{Units: units(8), Initiators: names(8), Access: all}, api.OK)
	wantNew(t, "many", world.New(), Config{Units: units(8), Initiators: names(8), Access: slices.Repeat(all, 10000)}, api.ErrForm)
}

func TestNewInfo(t *testing.T) {
	for _, at := range []int{0, 1} {
		for _, one := range []struct {
			info   inq.Info
			wanted api.Errno
		}{
			{inq.Info{Serial: "S"}, api.OK},
			{inq.Info{Serial: "A"}, api.OK}, // as the other one's
			{inq.Info{Serial: "S", Prot: 3}, api.OK},
			{inq.Info{}, api.ErrForm},
			{inq.Info{Serial: "S", Prot: 4}, api.ErrForm},
			{inq.Info{Serial: "S", Vendor: "123456789"}, api.ErrForm},
			{inq.Info{Serial: "S\n"}, api.ErrForm},
		} {
			c := Config{Units: units(2)}
			c.Units[at].Info = one.info
			wantNew(t, "an info", world.New(), c, one.wanted)
		}
	}
}

// The least of several errors is answered.
func TestNewOrder(t *testing.T) {
	c := usual()
	wantNew(t, "no world", nil, c, api.ErrNone)
	for what, spoil := range map[string]func(*Config){
		"a name":    func(c *Config) { c.Initiators[2] = "i" },
		"an access": func(c *Config) { c.Access[3].LUN = 8 },
		"an info":   func(c *Config) { c.Units[2].Info.Serial = "" },
	} {
		c := usual()
		spoil(&c)
		wantNew(t, what, world.New(), c, api.ErrForm)
		wantNew(t, what+", no world", nil, c, api.ErrForm)
		c.Units[0].Blocks = 0
		wantNew(t, what+", no blocks", world.New(), c, api.ErrArg)
		c.Units[0].Blocks, c.Initiators = 1, append(c.Initiators, names(6)...)
		wantNew(t, what+", nine initiators", nil, c, api.ErrArg)
		c.Initiators = c.Initiators[:3]
		c.Units = append(c.Units, units(6)...)
		wantNew(t, what+", nine units", nil, c, api.ErrArg)
		c.Units = nil
		wantNew(t, what+", no units", nil, c, api.ErrArg)
	}
	wantNew(t, "nothing", nil, Config{}, api.ErrArg)
}

// Each unit lies in files of its own, and all others are its peers, in order.
func TestUnitsLieInFiles(t *testing.T) {
	r := newRig(t, Config{Units: units(8)}).awake()
	for at := range 8 {
		name := "u" + string(rune('0'+at)) + ".d"
		if r.w.Size(name) != -1 {
			t.Errorf("%s is there", name)
		}
		if got := r.Unit(at).Do(0, writeFUA(byte(at), 1), fill(byte(at), 16)); got.Status != api.Good {
			t.Errorf("the unit %d: %v", at, got)
		}
		if r.w.Size(name) < 16*(at+1) {
			t.Errorf("%s has %d bytes", name, r.w.Size(name))
		}
	}
	if len(r.w.Names()) != 8 {
		t.Errorf("the files are %v", r.w.Names())
	}
}

// What was handed in may be written over.
func TestNewKeepsNothing(t *testing.T) {
	c := usual()
	c.Units = append(c.Units, unitConfig("S3", 2))[:3]
	c.Login.Users = []login.User{{Name: "u", Secret: "s"}}
	wanted := usual()
	r := newRig(t, c)
	if !slices.Equal(c.Units, wanted.Units) || c.Units[:4][3] != unitConfig("S3", 2) ||
		!slices.Equal(c.Initiators, wanted.Initiators) || !slices.Equal(c.Access, wanted.Access) {
		t.Errorf("New has changed what was handed in: %v", c)
	}
	clear(c.Units)
	clear(c.Initiators)
	clear(c.Access)
	clear(c.Login.Targets)
	clear(c.Login.Users)
	for range 2 {
		r.connect(0)
		r.prove(0, "i", "u", "s")
		r.wantNexus(0)
		r.awake()
		r.send(0, command(1, 1, reads, 64, inquiry), command(0, 2, reads, 64, luns))
		r.step(0)
		r.wantNews(0, dataIn(2, "00000010 00000000 0000000000000000 0001000000000000"), good(2),
			dataIn(1, "00000602 1f000002 5620202020202020 50202020202020202020202020202020 52202020"), good(1))
		r.crash(0, 0)
	}
}
