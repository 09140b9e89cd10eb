package rtt_test

import (
	"math"
	"testing"

	"anchorite/api"
	"anchorite/granule"
	"anchorite/machine"
	"anchorite/rtt"
)

// call is one of the calls that answer an error, with all that any of them takes.
type call struct {
	root        int
	owner       uint64
	table, page int
	level       int
	e           api.Entry
}

// right is a call that no check of its arguments refuses.
func right() call { return call{root, owner, spare, 5, 1, data(9)} }

// answers are the errors of all calls, each beside what it should have answered but for the error.
func answers(t *testing.T, x *rtt.Tables, c call) map[string]api.Errno {
	t.Helper()
	out := map[string]api.Errno{}
	w, e := x.Walk(c.root, c.page)
	out["Walk"] = e
	l, f := x.Look(c.root, c.page, c.level)
	out["Look"] = f
	if e != api.OK && w != (api.Walk{}) || f != api.OK && l != (api.Walk{}) {
		t.Fatal("a walk beside an error", w, e, l, f)
	}
	out["Set"] = x.Set(c.root, c.page, c.e)
	out["Create"] = x.Create(c.root, c.owner, c.table, c.page, c.level)
	g, e := x.Destroy(c.root, c.page, c.level)
	out["Destroy"] = taken(t, g, e)
	g, e = x.Fold(c.root, c.page, c.level)
	out["Fold"] = taken(t, g, e)
	return out
}

// allRefuse says of these calls that they answer that error, and that none changes anything.
func (b *bench) allRefuse(want api.Errno, c call, names ...string) {
	b.t.Helper()
	b.changes(func() {
		b.t.Helper()
		got := answers(b.t, b.x, c)
		for _, name := range names {
			if got[name] != want {
				b.t.Fatal(name, c, got[name], "not", want)
			}
		}
	}, nil, nil, c)
}

func every() []string { return []string{"Walk", "Look", "Set", "Create", "Destroy", "Fold"} }

// nones are tables that are not there, and such as are over no memory, or over no rows.
func nones(t *testing.T) map[string]*rtt.Tables {
	b := fresh(t, 8)
	return map[string]*rtt.Tables{
		"nil":                    nil,
		"zero":                   {},
		"over nothing":           rtt.New(nil, nil),
		"no memory":              rtt.New(nil, b.rows),
		"no rows":                rtt.New(b.m, nil),
		"a zero memory":          rtt.New(&machine.Memory{}, b.rows),
		"zero rows":              rtt.New(b.m, &granule.Table{}),
		"a zero memory and rows": rtt.New(&machine.Memory{}, &granule.Table{}),
		"no memory, zero rows":   rtt.New(nil, &granule.Table{}),
		"a zero memory, no rows": rtt.New(&machine.Memory{}, nil),
	}
}

// ErrNil is told ahead of all that is wrong beside it.
func TestNoTables(t *testing.T) {
	wrong := call{-1, 0, -1, 256, 4, api.Entry{Kind: 7}}
	zero := call{}
	for name, x := range nones(t) {
		for _, c := range []call{right(), wrong, zero, {root, owner, -1, 5, 9, data(-1)}} {
			for which, e := range answers(t, x, c) {
				if e != api.ErrNil {
					t.Error(name, which, c, e)
				}
			}
			if l := items(x, c.root); len(l) != 0 {
				t.Error(name, "Leaves", l)
			}
			if x.Blank(c.root) || x.Blank(c.table) {
				t.Error(name, "Blank")
			}
		}
		for range x.Leaves(root) {
			t.Error(name, "goes over something")
		}
	}
}

func TestWrongPages(t *testing.T) {
	b := fresh(t, 12)
	for _, page := range wrongPages() {
		c := right()
		c.page = page
		b.allRefuse(api.ErrArg, c, every()...)
	}
	b.down(5, 3)
	for _, page := range wrongPages() {
		for level := 1; level < 4; level++ {
			c := right()
			c.page, c.level, c.table = page, level, b.free
			b.allRefuse(api.ErrArg, c, every()...)
		}
	}
}

func TestWrongLevels(t *testing.T) {
	b := fresh(t, 12)
	b.down(5, 3)
	for _, level := range append(wrongLevels(), 0) {
		c := right()
		c.level, c.table, c.page = level, b.free, 100
		for _, name := range []string{"Look", "Create", "Destroy", "Fold"} {
			if name != "Look" || level != 0 {
				b.oneRefuses(api.ErrArg, c, name)
			}
		}
	}
}

// oneRefuses is allRefuse of one call, of which the others might be done.
func (b *bench) oneRefuses(want api.Errno, c call, name string) {
	b.t.Helper()
	x := b.x
	b.refused(want, map[string]func() api.Errno{
		"Walk":    func() api.Errno { _, e := x.Walk(c.root, c.page); return e },
		"Look":    func() api.Errno { _, e := x.Look(c.root, c.page, c.level); return e },
		"Set":     func() api.Errno { return x.Set(c.root, c.page, c.e) },
		"Create":  func() api.Errno { return x.Create(c.root, c.owner, c.table, c.page, c.level) },
		"Destroy": func() api.Errno { g, e := x.Destroy(c.root, c.page, c.level); return taken(b.t, g, e) },
		"Fold":    func() api.Errno { g, e := x.Fold(c.root, c.page, c.level); return taken(b.t, g, e) },
	}[name], name, c)
}

// A root below 0, or that there is not, or of another state.
func TestWrongRoots(t *testing.T) {
	b := fresh(t, 20)
	b.down(5, 3)
	var roots []int
	for i, s := range otherStates() {
		b.makes(12+i, s)
		b.put(12+i, b.get(root)) // its bytes would lead on
		roots = append(roots, 12+i)
	}
	for _, g := range append(roots, 0, -1, -2, 20, 21, api.MaxGranules, 1<<32, 1<<32+root, math.MinInt, math.MaxInt) {
		for level := 1; level < 4; level++ {
			c := right()
			c.root, c.level, c.table = g, level, b.free
			b.allRefuse(api.ErrArg, c, every()...)
			if l := b.leaves(g); len(l) != 0 {
				t.Error(g, l)
			}
		}
	}
}

// A table's granule below 0, or that there is not.
func TestCreateOfNoGranule(t *testing.T) {
	b := fresh(t, 12)
	b.down(64, 2)
	for _, g := range []int{-1, -2, -12, 12, 13, api.MaxGranules, 1 << 32, 1<<32 + spare, math.MinInt, math.MaxInt} {
		for _, page := range []int{5, 64, 127} { // where it might be laid, where the way ends too early, where a table is
			for level := 1; level < 4; level++ {
				b.oneRefuses(api.ErrArg, call{root, owner, g, page, level, empty}, "Create")
			}
		}
	}
}

// A granule of any state but Delegated: held or not, ErrState.
func TestCreateOfAnotherState(t *testing.T) {
	for _, s := range append(otherStates(), api.StateTable) {
		for _, held := range []bool{false, true} {
			for level := 1; level < 4; level++ {
				b := fresh(t, 12)
				b.down(5, level-1)
				want := api.ErrState
				b.makes(10, s)
				if held {
					must(t, b.rows.Hold(10))
				}
				if s == api.Delegated {
					want = api.ErrUse
				}
				if s != api.Delegated || held {
					b.oneRefuses(want, call{root, owner, 10, 5, level, empty}, "Create")
				}
				b.oneRefuses(api.ErrState, call{root, owner, root, 5, level, empty}, "Create")
			}
		}
	}
}

func TestCreateOfAHeldGranule(t *testing.T) {
	for level := 1; level < 4; level++ {
		b := fresh(t, 12)
		b.down(5, level-1)
		c := call{root, owner, b.free, 5, level, empty}
		must(t, b.rows.Hold(b.free))
		must(t, b.rows.Hold(b.free))
		b.oneRefuses(api.ErrUse, c, "Create")
		must(t, b.rows.Let(b.free))
		b.oneRefuses(api.ErrUse, c, "Create")
		must(t, b.rows.Let(b.free))
		b.lay(5, level)
	}
}

// An owner 0, and one whose root it is not.
func TestCreateOfAnotherOwner(t *testing.T) {
	b := fresh(t, 12)
	must(t, b.rows.Step(11, api.Delegated, api.StateTable, 9)) // another realm's root
	b.put(11, api.Granule{})
	for level := 1; level < 4; level++ {
		for _, o := range []uint64{0, 1, 6, 8, 9, 1<<32 + owner, math.MaxUint64} {
			b.oneRefuses(api.ErrArg, call{root, o, b.free, 5, level, empty}, "Create")
		}
		b.oneRefuses(api.ErrArg, call{11, owner, b.free, 5, level, empty}, "Create")
		b.oneRefuses(api.ErrArg, call{11, 0, b.free, 5, level, empty}, "Create")
		b.lay(5, level)
	}
	must(t, b.x.Create(11, 9, b.free, 5, 1))
	if row := b.row(b.free); row != (api.Row{State: api.StateTable, Owner: 9}) {
		t.Error(row)
	}
}

// The way to the level above ends earlier; or a table is there already.
func TestCreateOnAnotherLevel(t *testing.T) {
	for _, page := range edges() {
		for end := range 4 {
			b := fresh(t, 12)
			b.down(page, end)
			for level := 1; level < 4; level++ {
				c := call{root, owner, b.free, page, level, empty}
				switch {
				case level <= end:
					b.oneRefuses(api.ErrState, c, "Create")
				case level > end+1:
					b.oneRefuses(api.ErrTable, c, "Create")
				}
			}
			if end < 2 {
				b.destroyAt(page, end)
				b.oneRefuses(api.ErrTable, call{root, owner, b.free, page, end + 2, empty}, "Create")
			}
		}
	}
}

// Several faults at once: the one that the chapter names first.
func TestOrderOfErrors(t *testing.T) {
	b := fresh(t, 20)
	b.down(5, 3) // the granules 4 to 6
	b.set(4, data(9))
	b.set(5, destroyed)
	used, held := 7, 8
	b.makes(used, api.StateData)
	must(t, b.rows.Hold(used))
	must(t, b.rows.Hold(held))
	bad := api.Entry{Kind: 7}
	for i, c := range []struct {
		call
		name string
		want api.Errno
	}{
		{call{root, owner, spare, 256, 4, bad}, "Look", api.ErrArg},
		{call{0, owner, spare, -1, -1, bad}, "Look", api.ErrArg},
		// What is handed in, ahead of where the way ends.
		{call{root, owner, 0, 100, 0, bad}, "Set", api.ErrArg},
		{call{root, owner, 0, 100, 0, table(9)}, "Set", api.ErrArg},
		{call{0, owner, 0, 100, 0, data(9)}, "Set", api.ErrArg},
		{call{root, owner, 0, 100, 0, data(9)}, "Set", api.ErrTable},
		{call{root, 0, held, 100, 3, bad}, "Create", api.ErrArg},
		{call{root, 8, used, 5, 3, bad}, "Create", api.ErrArg},
		{call{root, 8, held, 5, 3, bad}, "Create", api.ErrArg},
		{call{root, owner, -1, 100, 3, bad}, "Create", api.ErrArg},
		{call{root, owner, 20, 5, 3, bad}, "Create", api.ErrArg},
		{call{root, owner, used, 256, 3, bad}, "Create", api.ErrArg},
		{call{root, owner, used, 100, 4, bad}, "Create", api.ErrArg},
		{call{root, owner, used, 5, 0, bad}, "Create", api.ErrArg},
		{call{used, owner, used, 100, 3, bad}, "Create", api.ErrArg},
		// Where the way ends, ahead of the granule's state.
		{call{root, owner, used, 100, 2, bad}, "Create", api.ErrTable},
		{call{root, owner, 0, 100, 3, bad}, "Create", api.ErrTable},
		{call{root, owner, held, 100, 3, bad}, "Create", api.ErrTable},
		{call{root, owner, root, 100, 3, bad}, "Create", api.ErrTable},
		// A table that is there, or another state, ahead of who holds the granule.
		{call{root, owner, held, 5, 3, bad}, "Create", api.ErrState},
		{call{root, owner, held, 100, 1, bad}, "Create", api.ErrUse},
		{call{root, owner, used, 100, 1, bad}, "Create", api.ErrState},
		{call{root, owner, used, 5, 1, bad}, "Create", api.ErrState},
		// What is handed in, ahead of a table that has something; that, ahead of four that are not alike.
		{call{root, owner, 0, 256, 3, bad}, "Destroy", api.ErrArg},
		{call{root, owner, 0, 5, 0, bad}, "Destroy", api.ErrArg},
		{call{root, owner, 0, 5, 4, bad}, "Fold", api.ErrArg},
		{call{0, owner, 0, 5, 3, bad}, "Fold", api.ErrArg},
		{call{root, owner, 0, 5, 3, bad}, "Destroy", api.ErrUse},
		{call{root, owner, 0, 5, 3, bad}, "Fold", api.ErrUse},
		{call{root, owner, 0, 5, 2, bad}, "Fold", api.ErrUse},
		{call{root, owner, 0, 8, 3, bad}, "Fold", api.ErrTable},
	} {
		t.Log(i)
		b.oneRefuses(c.want, c.call, c.name)
	}
	// Held, and four that are not alike: Fold tells that it is held.
	b.set(4, empty)
	b.oneRefuses(api.ErrState, call{root, owner, 0, 5, 3, bad}, "Fold")
	must(t, b.rows.Hold(6))
	b.keeps(api.ErrUse, 5, 3, "held, and not alike")
	b.set(4, data(9))
	b.keeps(api.ErrUse, 5, 3, "held, not alike, and it has something")
}

// Memory and rows with a different number of granules: a granule is there that both have.
func TestMemoryAndRowsOfDifferentSizes(t *testing.T) {
	for _, c := range []struct{ memory, rows int }{{6, 9}, {9, 6}, {6, api.MaxGranules}, {api.MaxGranules, 6}, {7, 6}, {6, 7}} {
		m, e := machine.New(c.memory)
		must(t, e)
		rows, e := granule.New(c.rows)
		must(t, e)
		for g := range c.rows {
			must(t, rows.Step(g, api.Undelegated, api.Delegated, 0))
		}
		must(t, rows.Step(0, api.Delegated, api.StateTable, owner))
		b := &bench{t: t, m: m, rows: rows, x: rtt.New(m, rows)}
		for _, g := range []int{6, 7, 8, c.memory - 1, c.memory, c.rows - 1, c.rows} {
			if g < 6 {
				continue
			}
			b.oneRefuses(api.ErrArg, call{0, owner, g, 5, 1, empty}, "Create")
			if g < c.rows { // a Table, but without bytes
				rows.Step(g, api.Delegated, api.StateTable, owner)
			}
			b.allRefuse(api.ErrArg, call{g, owner, 1, 5, 1, empty}, every()...)
			if b.x.Blank(g) || len(b.leaves(g)) != 0 {
				t.Error(c, g)
			}
			// An entry that leads there ends the way.
			b.put(0, bytesOf(table(min(g, api.MaxGranules-1))))
			if w, e := b.x.Walk(0, 5); e != api.OK || w != (api.Walk{Entry: table(min(g, api.MaxGranules-1))}) {
				t.Error(c, g, w, e)
			}
			b.oneRefuses(api.ErrTable, call{0, owner, 1, 5, 1, empty}, "Destroy")
			b.oneRefuses(api.ErrTable, call{0, owner, 1, 5, 1, empty}, "Fold")
			b.put(0, api.Granule{})
		}
		must(t, b.x.Create(0, owner, 5, 5, 1))
		must(t, b.x.Create(0, owner, 4, 5, 2))
		must(t, b.x.Create(0, owner, 3, 5, 3))
		must(t, b.x.Set(0, 5, data(api.MaxGranules-1)))
		if w, e := b.x.Walk(0, 5); e != api.OK || w != (api.Walk{Level: 3, Table: 3, Slot: 1, Entry: data(api.MaxGranules - 1)}) {
			t.Error(c, w, e)
		}
	}
}

// Bytes that were spoilt.

// noEntries are eight bytes each that are no entry.
func noEntries() [][8]byte {
	return [][8]byte{
		{7}, {255}, {0, 5}, {3, 1}, {4, 0, 1}, {5, 9}, {1, 0, 16}, {2, 255, 255}, {6, 0, 16}, {0, 0, 0, 1}, {1, 4, 0, 1}, {2, 9, 0, 0, 0, 0, 0, 1}, {3, 0, 0, 0, 0, 0, 0, 128},
		{255, 255, 255, 255, 255, 255, 255, 255},
	}
}

// spoil lays eight bytes at a table's slot.
func (b *bench) spoil(g, slot int, bytes [8]byte) {
	b.t.Helper()
	must(b.t, b.m.Write(uint64(128*g+8*slot), bytes[:]), "Write", g, slot)
}

// On each level: what is no entry counts as Empty, and those beside it stay what they are.
func TestWhatIsNoEntryCountsAsEmpty(t *testing.T) {
	for _, page := range edges() {
		for level := range 4 {
			for _, bytes := range noEntries() {
				b := fresh(t, 16)
				g := b.down(page, level)
				beside := page ^ many(level)/4
				if level == 3 {
					b.set(beside, shared(77))
				} else {
					b.destroyAt(beside, level)
				}
				want, e := b.x.Walk(root, beside)
				must(t, e)
				b.spoil(g, slot(page, level), bytes)
				b.walks(page, api.Walk{Level: level, Table: g, Slot: slot(page, level)}, bytes)
				b.walks(beside, want, bytes)
				if level == 3 {
					if l := b.leaves(root); len(l) != 1 || l[0] != (item{beside, shared(77)}) {
						t.Fatal(bytes, l)
					}
					b.set(page, data(3))
					b.walks(page, api.Walk{Level: 3, Table: g, Slot: page % 4, Entry: data(3)}, bytes)
				} else {
					b.keeps(api.ErrTable, page, level+1, bytes)
					next := b.lay(page, level+1)
					b.walks(page, api.Walk{Level: level + 1, Table: next, Slot: slot(page, level+1)}, bytes)
					if b.get(next) != (api.Granule{}) {
						t.Fatal("not four Empty ones", b.get(next))
					}
				}
				b.walks(beside, want, bytes)
			}
		}
	}
}

// A table of what is no entry is one of four Empty ones, also where bytes follow them.
func TestATableOfNoEntries(t *testing.T) {
	for _, bytes := range noEntries() {
		for level := 1; level < 4; level++ {
			b := fresh(t, 16)
			g := b.down(200, level)
			for i := range 4 {
				b.spoil(g, i, bytes)
			}
			if !b.x.Blank(g) {
				t.Error("not Blank", bytes)
			}
			b.takes(200, level, four(empty))
			b.put(g, rubbish(g))
			if !b.x.Blank(g) {
				t.Error("not Blank", bytes)
			}
			b.takes(200, level, four(empty))
			b.spoil(g, 2, [8]byte{3})
			if b.x.Blank(g) {
				t.Error("Blank, though one is Destroyed", bytes)
			}
			b.takes(200, level, []api.Entry{empty, empty, destroyed, empty})
		}
	}
}

// What stands behind the four entries, or beside the one that is set, stays as it is.
func TestSetChangesEightBytes(t *testing.T) {
	b := fresh(t, 16)
	three := b.down(5, 3)
	for i := range 4 {
		for _, e := range leaves() {
			b.put(three, rubbish(9))
			want := rubbish(9)
			copy(want[8*i:8*i+8], []byte{byte(e.Kind), byte(e.Granule % 256), byte(e.Granule / 256), 0, 0, 0, 0, 0})
			b.changes(func() { b.set(4+i, e) }, map[int]api.Granule{three: want}, nil, i, e)
		}
	}
}

// An EntryTable whose granule is no Table ends the way, on each level above the last.
func TestWhatLeadsToNoTable(t *testing.T) {
	for _, page := range edges() {
		for level := range 3 {
			b := fresh(t, 24)
			g := b.down(page, level)
			leads := []int{0, 24, 25, api.MaxGranules - 1}
			for i, s := range otherStates() {
				b.makes(16+i, s)
				b.put(16+i, bytesOf(four(destroyed)...))
				leads = append(leads, 16+i)
			}
			for _, to := range leads {
				b.spoil(g, slot(page, level), [8]byte{1, byte(to % 256), byte(to / 256)})
				want := api.Walk{Level: level, Table: g, Slot: slot(page, level), Entry: table(to)}
				b.walks(page, want)
				for l := level; l < 4; l++ {
					b.looks(page, l, want)
				}
				b.oneRefuses(api.ErrTable, call{root, owner, b.free, page, 0, destroyed}, "Set")
				for l := level + 1; l < 4; l++ {
					b.keeps(api.ErrTable, page, l, to)
					code := api.ErrTable
					if l == level+1 {
						code = api.ErrState
					}
					b.oneRefuses(code, call{root, owner, b.free, page, l, empty}, "Create")
				}
				if l := b.leaves(root); len(l) != 0 {
					t.Error(page, level, to, l)
				}
				if b.x.Blank(g) {
					t.Error("Blank", page, level, to)
				}
			}
		}
	}
}
