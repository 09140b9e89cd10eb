package rtt_test

import (
	"math/rand"
	"slices"
	"testing"

	"anchorite/api"
)

// Ways that begin by a table below the root come to those below it on other levels.

// somethings are entries that are neither Empty nor Destroyed, of those that Set takes.
func somethings() []api.Entry {
	return slices.DeleteFunc(leaves(), func(e api.Entry) bool { return e == empty || e == destroyed })
}

// chain has the tables of all levels on the way of the page 0: they are told from the root on.
func chain(t *testing.T) (*bench, [4]int) {
	t.Helper()
	b := fresh(t, 20)
	b.down(0, 3)
	return b, [4]int{root, spare, spare + 1, spare + 2}
}

// at is the page whose way goes by the slots 0, but for that slot on that level.
func at(slot, level int) int { return slot * many(level) / 4 }

// endsBy says of the ways of all pages below that entry, from that root, that they end by it, and that no table of it is taken away, or laid over it.
func (b *bench) endsBy(root int, want api.Walk, what ...any) {
	b.t.Helper()
	for p := range many(want.Level) / 4 {
		page := at(want.Slot, want.Level) + p
		for level := want.Level; level < 4; level++ {
			if w, e := b.x.Look(root, page, level); e != api.OK || w != want {
				b.t.Fatal("Look", root, page, level, w, e, "not", want, what)
			}
		}
		if w, e := b.x.Walk(root, page); e != api.OK || w != want {
			b.t.Fatal("Walk", root, page, w, e, "not", want, what)
		}
	}
	page, level := at(want.Slot, want.Level), want.Level
	if level < 3 {
		b.refused(api.ErrState, func() api.Errno { return b.x.Create(root, owner, 15, page, level+1) }, "Create", root, page, level+1, what)
		b.refused(api.ErrTable, func() api.Errno { return b.x.Set(root, page, destroyed) }, "Set", root, page, what)
	}
	for l := level + 1; l < 4; l++ {
		b.stays(api.ErrTable, root, page, l, what)
	}
	for l := level + 2; l < 4; l++ {
		b.refused(api.ErrTable, func() api.Errno { return b.x.Create(root, owner, 15, page, l) }, "Create", root, page, l, what)
	}
	if level > 0 {
		b.stays(api.ErrUse, root, page, level, what)
	}
}

// stays says of a table on a way from that root that neither Destroy nor Fold takes it away.
func (b *bench) stays(want api.Errno, root, page, level int, what ...any) {
	b.t.Helper()
	b.refused(want, func() api.Errno { g, e := b.x.Destroy(root, page, level); return taken(b.t, g, e) }, "Destroy", root, page, level, what)
	b.refused(want, func() api.Errno { g, e := b.x.Fold(root, page, level); return taken(b.t, g, e) }, "Fold", root, page, level, what)
}

// P9.1 and P9.4: what a page is was Set; a way of another root comes to it on each level.
func TestWhatIsSetIsThereOnEachLevel(t *testing.T) {
	for slot := range 4 {
		for _, e := range somethings() {
			b, tables := chain(t)
			b.set(slot, e)
			for i, root := range tables {
				b.endsBy(root, api.Walk{Level: 3 - i, Table: tables[3], Slot: slot, Entry: e}, slot, e, i)
			}
			if l := b.leaves(tables[1]); len(l) != 0 {
				t.Error("what ends above the level 3 is no leaf", l)
			}
			// Three Destroyed beside it, or four alike, change nothing of it.
			for _, beside := range []api.Entry{destroyed, e} {
				for p := range 4 {
					if p != slot {
						b.set(p, beside)
					}
				}
				for i, root := range tables {
					b.endsBy(root, api.Walk{Level: 3 - i, Table: tables[3], Slot: slot, Entry: e}, slot, e, i, beside)
				}
			}
			for p := range 4 {
				b.set(p, empty)
			}
			if g, f := b.x.Fold(tables[1], 0, 2); f != api.OK || g != tables[3] {
				t.Error("Fold of what has nothing", g, f)
			}
		}
	}
}

// P9.1, P9.4 and P9.5: a table that is laid below one of the level 3 is there: that one leads to it, and the page is a leaf.
func TestATableBelowTheLevel3IsThere(t *testing.T) {
	for slot := range 4 {
		for i := 1; i < 4; i++ {
			b, tables := chain(t)
			// From the table i on, tables[3] is of the level 3-i.
			below := b.free
			must(t, b.x.Create(tables[i], owner, below, at(slot, 3-i), 4-i))
			want := api.Walk{Level: 3, Table: tables[3], Slot: slot, Entry: table(below)}
			b.endsBy(root, want, slot, i)
			b.walks(slot, want, slot, i)
			if l := b.leaves(root); !slices.Equal(l, []item{{slot, table(below)}}) {
				t.Error("Leaves", slot, i, l)
			}
			b.refused(api.ErrArg, func() api.Errno { return b.x.Set(root, slot, table(below)) }, "Set takes no EntryTable")
			if g, e := b.x.Destroy(tables[i], at(slot, 3-i), 4-i); e != api.OK || g != below {
				t.Error("Destroy of the one below", g, e)
			}
			b.walks(slot, api.Walk{Level: 3, Table: tables[3], Slot: slot, Entry: destroyed}, slot, i)
		}
	}
}

// P9.2: its entry is e, whatever stood there.
func TestSetWhereATableStands(t *testing.T) {
	for _, e := range leaves() {
		b, tables := chain(t)
		below := b.free
		must(t, b.x.Create(tables[1], owner, below, at(2, 2), 3))
		b.changes(func() { b.set(2, e) }, map[int]api.Granule{tables[3]: bytesOf(empty, empty, e, empty)}, nil, e)
	}
}

// The two inputs of which a table was once taken away.
func TestTablesThatHaveSomethingStay(t *testing.T) {
	b, tables := chain(t)
	b.set(1, data(5))
	b.stays(api.ErrUse, tables[1], 0, 2, "a Data")
	if w, e := b.x.Walk(tables[1], 4); e != api.OK || w != (api.Walk{Level: 2, Table: tables[3], Slot: 1, Entry: data(5)}) {
		t.Error(w, e)
	}
	b, tables = chain(t)
	must(t, b.x.Create(tables[1], owner, b.free, 0, 3))
	b.stays(api.ErrUse, root, 0, 3, "a Table")
	if l := b.leaves(root); !slices.Equal(l, []item{{0, table(b.free)}}) {
		t.Error(l)
	}
}

// Entries that no call lays on their level are there as well, if they were written: on each level, in each slot.
func TestEntriesOfAnotherLevelAreThere(t *testing.T) {
	for level := range 4 {
		for s := range 4 {
			b := fresh(t, 16)
			g, page := b.down(0, level), at(s, level)
			other := somethings()
			if level == 3 {
				other = []api.Entry{table(root), table(g), table(b.free), table(0), table(api.MaxGranules - 1)}
			}
			for _, e := range other {
				b.spoil(g, s, [8]byte{byte(e.Kind), byte(e.Granule % 256), byte(e.Granule / 256)})
				b.endsBy(root, api.Walk{Level: level, Table: g, Slot: s, Entry: e}, level, s, e)
				if b.x.Blank(g) {
					t.Error("Blank", level, s, e)
				}
				var want []item
				if level == 3 {
					want = []item{{page, e}}
				}
				if l := b.leaves(root); !slices.Equal(l, want) {
					t.Error("Leaves", level, s, e, l)
				}
			}
		}
	}
}

// plain is granules and rows, and what is said of calls by what stands in them: any Table is a root.
type plain struct {
	bytes []api.Granule
	rows  []api.Row
}

// plainOf is what b has now.
func plainOf(b *bench) *plain {
	p := &plain{}
	for g := range b.rows.Granules() {
		p.bytes = append(p.bytes, b.get(g))
		p.rows = append(p.rows, b.row(g))
	}
	return p
}

func (p *plain) isTable(g int) bool {
	return g >= 0 && g < len(p.rows) && p.rows[g].State == api.StateTable
}

// has is the entry at a slot: bytes that are none's are Empty.
func (p *plain) has(g, slot int) api.Entry {
	b := p.bytes[g][8*slot : 8*slot+8]
	e := api.Entry{Kind: api.EntryKind(b[0]), Granule: int(b[1]) + 256*int(b[2])}
	for _, high := range b[3:] {
		if high != 0 {
			return empty
		}
	}
	if e.Kind > 6 || e.Granule >= 4096 || e.Granule > 0 && e.Kind != 1 && e.Kind != 2 && e.Kind != 6 {
		return empty
	}
	return e
}

func (p *plain) put(g, slot int, e api.Entry) {
	copy(p.bytes[g][8*slot:8*slot+8], []byte{byte(e.Kind), byte(e.Granule % 256), byte(e.Granule / 256), 0, 0, 0, 0, 0})
}

func (p *plain) look(root, page, level int) (api.Walk, api.Errno) {
	if !p.isTable(root) || !isPage(page) || level < 0 || level > 3 {
		return api.Walk{}, api.ErrArg
	}
	for l, g := 0, root; ; l++ {
		w := api.Walk{Level: l, Table: g, Slot: slot(page, l), Entry: p.has(g, slot(page, l))}
		if l == level || w.Entry.Kind != api.EntryTable || !p.isTable(w.Entry.Granule) {
			return w, api.OK
		}
		g = w.Entry.Granule
	}
}

func (p *plain) set(c call) api.Errno {
	w, e := p.look(c.root, c.page, 3)
	switch {
	case e != api.OK || !slices.Contains(leaves(), c.e):
		return api.ErrArg
	case w.Level < 3:
		return api.ErrTable
	}
	p.put(w.Table, w.Slot, c.e)
	return api.OK
}

func (p *plain) create(c call) api.Errno {
	w, e := p.look(c.root, c.page, c.level-1)
	switch {
	case e != api.OK || c.level < 1 || c.level > 3 || c.owner == 0 || p.rows[c.root].Owner != c.owner || c.table < 0 || c.table >= len(p.rows):
		return api.ErrArg
	case w.Level < c.level-1:
		return api.ErrTable
	case w.Entry != empty && w.Entry != destroyed || p.rows[c.table].State != api.Delegated:
		return api.ErrState
	case p.rows[c.table].Held > 0:
		return api.ErrUse
	}
	p.rows[c.table] = api.Row{State: api.StateTable, Owner: c.owner}
	p.bytes[c.table] = bytesOf(four(w.Entry)...)
	p.put(w.Table, w.Slot, table(c.table))
	return api.OK
}

func (p *plain) take(c call, fold bool) (int, api.Errno) {
	w, e := p.look(c.root, c.page, c.level-1)
	if e != api.OK || c.level < 1 || c.level > 3 {
		return 0, api.ErrArg
	}
	g := w.Entry.Granule
	if w.Level < c.level-1 || w.Entry.Kind != api.EntryTable || !p.isTable(g) {
		return 0, api.ErrTable
	}
	kinds := map[api.Entry]bool{}
	for i := range 4 {
		kinds[p.has(g, i)] = true
	}
	left := destroyed
	for e := range kinds {
		if e != empty && e != destroyed {
			return 0, api.ErrUse
		}
	}
	if p.rows[g].Held > 0 {
		return 0, api.ErrUse
	}
	if fold {
		if len(kinds) > 1 {
			return 0, api.ErrState
		}
		left = p.has(g, 0)
	}
	p.bytes[g], p.rows[g] = api.Granule{}, api.Row{State: api.Delegated}
	p.put(w.Table, w.Slot, left)
	return g, api.OK
}

func (p *plain) leaves(root int) []item {
	var out []item
	for page := range 256 {
		if w, e := p.look(root, page, 3); e == api.OK && w.Level == 3 && w.Entry != empty {
			out = append(out, item{page, w.Entry})
		}
	}
	return out
}

// same does one call to b and to p, and says that both answer alike, and have the same then.
func (p *plain) same(b *bench, which int, c call) (string, api.Errno) {
	b.t.Helper()
	name, got, want, g, w := "", api.OK, api.OK, 0, 0
	switch which {
	case 0:
		name, got, want = "Set", b.x.Set(c.root, c.page, c.e), p.set(c)
	case 1, 2, 3:
		name, got, want = "Create", b.x.Create(c.root, c.owner, c.table, c.page, c.level), p.create(c)
	case 4:
		name = "Destroy"
		g, got = b.x.Destroy(c.root, c.page, c.level)
		w, want = p.take(c, false)
	case 5:
		name = "Fold"
		g, got = b.x.Fold(c.root, c.page, c.level)
		w, want = p.take(c, true)
	default:
		p.sameLooks(b, c)
	}
	if got != want || g != w {
		b.t.Fatal(name, c, g, got, "not", w, want)
	}
	if now := plainOf(b); !slices.Equal(now.bytes, p.bytes) || !slices.Equal(now.rows, p.rows) {
		b.t.Fatal("other bytes, or rows, than there should be", name, c, got)
	}
	return name, got
}

// sameLooks says that b and p tell the same of a root.
func (p *plain) sameLooks(b *bench, c call) {
	b.t.Helper()
	for level := range 4 {
		want, f := p.look(c.root, c.page, level)
		if w, e := b.x.Look(c.root, c.page, level); w != want || e != f {
			b.t.Fatal("Look", c, level, w, e, "not", want, f)
		}
	}
	if l := b.leaves(c.root); !slices.Equal(l, p.leaves(c.root)) {
		b.t.Fatal("Leaves", c, l)
	}
	blank := p.isTable(c.root)
	for i := range 4 {
		blank = blank && p.has(c.root, i) == empty
	}
	if b.x.Blank(c.root) != blank {
		b.t.Fatal("Blank", c.root, !blank)
	}
}

// drawn is a call with arguments at random: any granule is its root.
func (p *plain) drawn(r *rand.Rand, pages []int) call {
	var tables, free []int
	for g, row := range p.rows {
		switch row.State {
		case api.StateTable:
			tables = append(tables, g)
		case api.Delegated:
			free = append(free, g)
		}
	}
	any := []int{r.Intn(len(p.rows)+2) - 1}
	return call{
		root:  some(r, append(tables, root), any),
		owner: some(r, []uint64{owner}, []uint64{0, 8}),
		table: some(r, append(free, any...), any),
		page:  some(r, pages, wrongPages()),
		level: some(r, []int{1, 2, 3}, append(wrongLevels(), 0)),
		e:     some(r, append(leaves(), empty, destroyed, empty, destroyed, empty, destroyed), noLeaves()),
	}
}

// P9.6: calls alone, each by any table as its root: what stands in tables is what they go by, and what has something stays.
func TestAnyCallsFromAnyTable(t *testing.T) {
	done := map[string]int{}
	for seed := range int64(40) {
		r := rand.New(rand.NewSource(seed))
		b := fresh(t, 14)
		p := plainOf(b)
		for range 1500 {
			c := p.drawn(r, []int{0, 1, 4, 5, 16, 17, 64, 85, 255})
			name, e := p.same(b, r.Intn(7), c)
			done[name+" "+e.Error()]++
		}
	}
	for _, name := range []string{"Set", "Create", "Destroy", "Fold"} {
		for _, e := range []api.Errno{api.OK, api.ErrArg, api.ErrTable} {
			if done[name+" "+e.Error()] < 20 {
				t.Error("not tried:", name, e, done)
			}
		}
	}
	if done["Destroy "+api.ErrUse.Error()] < 20 || done["Create "+api.ErrState.Error()] < 20 || done["Fold "+api.ErrState.Error()] < 5 {
		t.Error("not tried:", done)
	}
}

// P0.8: whatever bytes tables have, each call answers by what stands there, and does nothing where it refuses.
func TestAnyBytes(t *testing.T) {
	r := rand.New(rand.NewSource(1))
	var all []int
	for page := range 256 {
		all = append(all, page)
	}
	for range 1500 {
		b := fresh(t, 12)
		for g := root + 1; g < 12; g++ {
			if r.Intn(3) > 0 {
				must(t, b.rows.Step(g, api.Delegated, api.StateTable, owner))
			}
		}
		for g := range 12 {
			b.put(g, anyTable(r))
		}
		p := plainOf(b)
		for range 20 {
			p.same(b, r.Intn(7), p.drawn(r, all))
		}
	}
}

// anyTable is a table's bytes at random: noughts, entries of each kind, and what is no entry.
func anyTable(r *rand.Rand) api.Granule {
	var g api.Granule
	for i := range 4 {
		switch r.Intn(5) {
		case 0:
			r.Read(g[8*i : 8*i+8])
		case 1:
			g[8*i], g[8*i+1] = byte(r.Intn(8)), byte(r.Intn(2)*r.Intn(14))
		case 2:
			g[8*i] = byte(3 * r.Intn(2))
		default:
			g[8*i], g[8*i+1] = 1, byte(r.Intn(14))
		}
	}
	return g
}

// Tables that lead in a ring: each way ends, on the level 3, by what leads on.
func TestTablesThatLeadInARing(t *testing.T) {
	b := fresh(t, 16)
	b.put(root, bytesOf(four(table(root))...))
	var want []item
	for page := range 256 {
		b.walks(page, api.Walk{Level: 3, Table: root, Slot: page % 4, Entry: table(root)})
		want = append(want, item{page, table(root)})
	}
	if l := b.leaves(root); !slices.Equal(l, want) {
		t.Error(l)
	}
	for level := 1; level < 4; level++ {
		b.keeps(api.ErrUse, 5, level)
	}
}
