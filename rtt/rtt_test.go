package rtt_test

import (
	"math"
	"slices"
	"testing"

	"anchorite/api"
	"anchorite/granule"
	"anchorite/machine"
	"anchorite/rtt"
)

const (
	root  = 3 // the granule of the realm's root
	owner = 7 // and the realm's instance
	spare = 4 // the first of the granules that are Delegated from the start
)

var (
	empty     = api.Entry{}
	destroyed = api.Entry{Kind: api.EntryDestroyed}
)

func table(g int) api.Entry  { return api.Entry{Kind: api.EntryTable, Granule: g} }
func data(g int) api.Entry   { return api.Entry{Kind: api.EntryData, Granule: g} }
func shared(g int) api.Entry { return api.Entry{Kind: api.EntryShared, Granule: g} }

// leaves are entries that a table of the level 3 may hold: each kind, at the edges.
func leaves() []api.Entry {
	return []api.Entry{
		empty, destroyed, {Kind: api.EntryExported}, {Kind: api.EntryAwaiting},
		data(0), data(1), data(9), data(255), data(256), data(api.MaxGranules - 1),
		shared(0), shared(5), shared(api.MaxGranules - 1),
	}
}

// noLeaves are entries that may not be, or not on the level 3.
func noLeaves() []api.Entry {
	return []api.Entry{
		table(0), table(root), table(spare), table(api.MaxGranules - 1),
		{Kind: 7}, {Kind: -1}, {Kind: 256}, {Kind: 258, Granule: 5}, {Kind: math.MinInt}, {Kind: math.MaxInt},
		{Kind: api.EntryEmpty, Granule: 1}, {Kind: api.EntryDestroyed, Granule: 5}, {Kind: api.EntryExported, Granule: 1}, {Kind: api.EntryAwaiting, Granule: -1},
		data(-1), data(api.MaxGranules), data(1 << 32), data(math.MinInt), data(math.MaxInt), shared(-1), shared(api.MaxGranules),
	}
}

// edges are the pages at the edges: the first and the last, the last protected one and the first open one.
func edges() []int { return []int{0, 127, 128, 255} }

func wrongPages() []int {
	return []int{-1, -2, -64, -256, 256, 257, 512, 1 << 32, 1<<32 + 5, math.MinInt, math.MinInt + 5, math.MaxInt}
}

// wrongLevels are none; 0 is no level of a table that is laid, but one to look at.
func wrongLevels() []int {
	return []int{-1, -2, -4, 4, 5, 7, 64, 1 << 32, 1<<32 + 1, math.MinInt, math.MinInt + 1, math.MaxInt}
}

// slot is a page's slot on a level, digit by digit.
func slot(page, level int) int {
	for range 3 - level {
		page /= 4
	}
	return page % 4
}

// many is how many pages a table of that level is for.
func many(level int) int { return [4]int{256, 64, 16, 4}[level] }

// first is the first page of the table of that level on a page's way.
func first(page, level int) int { return page / many(level) * many(level) }

// bytesOf is the bytes of a table of these, byte by byte.
func bytesOf(l ...api.Entry) api.Granule {
	var g api.Granule
	for i, e := range l {
		g[8*i], g[8*i+1], g[8*i+2] = byte(e.Kind), byte(e.Granule%256), byte(e.Granule/256)
	}
	return g
}

func four(e api.Entry) []api.Entry { return []api.Entry{e, e, e, e} }

// bench is a memory, its rows, and tables over both.
type bench struct {
	t    *testing.T
	m    *machine.Memory
	rows *granule.Table
	x    *rtt.Tables
	free int // the next granule that is Delegated
}

// fresh has n granules: the first ones the host's, then a root, then such as are Delegated; what is not a table's bytes is no noughts.
func fresh(t *testing.T, n int) *bench {
	t.Helper()
	m, e := machine.New(n)
	must(t, e, "a memory")
	rows, e := granule.New(n)
	must(t, e, "rows")
	b := &bench{t, m, rows, rtt.New(m, rows), spare}
	for g := range n {
		if g >= root {
			must(t, rows.Step(g, api.Undelegated, api.Delegated, 0))
		}
		if g != root {
			must(t, m.Put(g, rubbish(g)))
		}
	}
	must(t, rows.Step(root, api.Delegated, api.StateTable, owner))
	return b
}

// rubbish is bytes of which no eight are an entry.
func rubbish(g int) api.Granule {
	var out api.Granule
	for i := range out {
		out[i] = byte(200 + (g+i)%50)
	}
	return out
}

func must(t *testing.T, e api.Errno, what ...any) {
	t.Helper()
	if e != api.OK {
		t.Fatal(append(what, e)...)
	}
}

// lay lays the next table, of that level, on a page's way, and tells its granule.
func (b *bench) lay(page, level int) int {
	b.t.Helper()
	must(b.t, b.x.Create(root, owner, b.free, page, level), "Create", b.free, page, level)
	b.free++
	return b.free - 1
}

// down lays tables on a page's way where there are none, down to that level, and tells the last one's granule.
func (b *bench) down(page, level int) int {
	b.t.Helper()
	out := root
	for l := 1; l <= level; l++ {
		w, e := b.x.Look(root, page, l-1)
		must(b.t, e, "Look", page, l-1)
		out = w.Entry.Granule
		if w.Entry.Kind != api.EntryTable {
			out = b.lay(page, l)
		}
	}
	return out
}

func (b *bench) set(page int, e api.Entry) {
	b.t.Helper()
	must(b.t, b.x.Set(root, page, e), "Set", page, e)
}

func (b *bench) put(g int, bytes api.Granule) {
	b.t.Helper()
	must(b.t, b.m.Put(g, bytes), "Put", g)
}

func (b *bench) get(g int) api.Granule {
	b.t.Helper()
	bytes, e := b.m.Get(g)
	must(b.t, e, "Get", g)
	return bytes
}

func (b *bench) row(g int) api.Row {
	b.t.Helper()
	row, e := b.rows.Row(g)
	must(b.t, e, "Row", g)
	return row
}

// walks says of a page where its way ends.
func (b *bench) walks(page int, want api.Walk, what ...any) {
	b.t.Helper()
	if w, e := b.x.Walk(root, page); e != api.OK || w != want {
		b.t.Fatal("Walk", page, w, e, "not", want, what)
	}
}

// looks says of a page where it is on a level, or ended above it.
func (b *bench) looks(page, level int, want api.Walk, what ...any) {
	b.t.Helper()
	if w, e := b.x.Look(root, page, level); e != api.OK || w != want {
		b.t.Fatal("Look", page, level, w, e, "not", want, what)
	}
}

// refused says of a call that it answers that error, and changes nothing.
func (b *bench) refused(want api.Errno, call func() api.Errno, what ...any) {
	b.t.Helper()
	b.changes(func() {
		b.t.Helper()
		if e := call(); e != want {
			b.t.Fatal(append(what, "answers", e, "not", want)...)
		}
	}, nil, nil, what...)
}

// changes says of what is done that it changes these granules' bytes and rows, to these ones, and no others.
func (b *bench) changes(do func(), bytes map[int]api.Granule, rows map[int]api.Row, what ...any) {
	b.t.Helper()
	m, t := b.m.Copy(), b.rows.Copy()
	do()
	for g := range m.Granules() {
		want, is := bytes[g]
		if !is {
			want, _ = m.Get(g)
		}
		if got := b.get(g); got != want {
			b.t.Fatal("other bytes than there should be", g, got, "not", want, what)
		}
	}
	for g := range t.Granules() {
		want, is := rows[g]
		if !is {
			want, _ = t.Row(g)
		}
		if got := b.row(g); got != want {
			b.t.Fatal("another row than there should be", g, got, "not", want, what)
		}
	}
}

// taken is Destroy's, or Fold's, error; the granule beside an error is 0.
func taken(t *testing.T, g int, e api.Errno) api.Errno {
	t.Helper()
	if e != api.OK && g != 0 {
		t.Fatal("a granule beside an error", g, e)
	}
	return e
}

// item is what Leaves tells at a time.
type item struct {
	page int
	e    api.Entry
}

func (b *bench) leaves(root int) []item { return items(b.x, root) }

func items(x *rtt.Tables, root int) []item {
	var out []item
	for page, e := range x.Leaves(root) {
		out = append(out, item{page, e})
	}
	return out
}

// The chapter's examples.
func TestExamples(t *testing.T) {
	b := fresh(t, 12)
	b.walks(5, api.Walk{Level: 0, Table: root, Slot: 0, Entry: empty})
	one := b.lay(5, 1)
	b.refused(api.ErrTable, func() api.Errno { return b.x.Create(root, owner, b.free, 5, 3) })
	b.refused(api.ErrTable, func() api.Errno { return b.x.Set(root, 5, destroyed) })
	two, three := b.lay(5, 2), b.lay(5, 3)
	b.set(5, data(9))
	b.walks(5, api.Walk{Level: 3, Table: three, Slot: 1, Entry: data(9)})
	b.walks(6, api.Walk{Level: 3, Table: three, Slot: 2, Entry: empty})
	b.looks(5, 0, api.Walk{Level: 0, Table: root, Slot: 0, Entry: table(one)})
	b.looks(5, 1, api.Walk{Level: 1, Table: one, Slot: 0, Entry: table(two)})
	b.looks(5, 2, api.Walk{Level: 2, Table: two, Slot: 1, Entry: table(three)})
}

// P9.1

func TestWalkOfANewRoot(t *testing.T) {
	b := fresh(t, 8)
	for page := range 256 {
		for level := range 4 {
			b.looks(page, level, api.Walk{Level: 0, Table: root, Slot: page / 64})
		}
		b.walks(page, api.Walk{Level: 0, Table: root, Slot: page / 64})
	}
}

// Ways that end on each level, by an Empty and by a Destroyed: so do those of all pages below, and no others.
func TestWaysThatEndOnEachLevel(t *testing.T) {
	for _, page := range edges() {
		for level := range 4 {
			for _, e := range []api.Entry{empty, destroyed} {
				b := fresh(t, 12)
				last := b.down(page, level)
				if level == 3 {
					b.set(page, e)
				} else if e == destroyed {
					b.lay(page, level+1)
					_, f := b.x.Destroy(root, page, level+1)
					must(t, f, "Destroy", page, level+1)
				}
				below := many(level) / 4
				for p := range 256 {
					w, f := b.x.Walk(root, p)
					if f != api.OK {
						t.Fatal(p, f)
					}
					if p/below == page/below && w != (api.Walk{Level: level, Table: last, Slot: slot(p, level), Entry: e}) {
						t.Fatal("not what is above it", page, level, e, p, w)
					}
					if p/below != page/below && w.Entry != empty {
						t.Fatal("changed beside it", page, level, e, p, w)
					}
				}
			}
		}
	}
}

func TestWaysThatEndByEachKind(t *testing.T) {
	for _, page := range append(edges(), 5, 27, 200) {
		b := fresh(t, 12)
		last := b.down(page, 3)
		for _, e := range leaves() {
			b.set(page, e)
			b.walks(page, api.Walk{Level: 3, Table: last, Slot: page % 4, Entry: e})
		}
	}
}

// Look above the way's end, at it, and below it, where the way is on each level, and where it ends on each.
func TestLookOnEachLevel(t *testing.T) {
	for _, page := range append(edges(), 27, 228) {
		for end := range 4 {
			b := fresh(t, 12)
			way := []int{root}
			for level := 1; level <= end; level++ {
				way = append(way, b.lay(page, level))
			}
			for level := range 4 {
				at := min(level, end)
				want := api.Walk{Level: at, Table: way[at], Slot: slot(page, at)}
				if at < end {
					want.Entry = table(way[at+1])
				}
				b.looks(page, level, want, end)
			}
			w, e := b.x.Look(root, page, 3)
			must(t, e)
			b.walks(page, w)
		}
	}
}

// Any table may be where a way begins: what it has is then of the level 0.
func TestAnyTableIsARoot(t *testing.T) {
	b := fresh(t, 12)
	one := b.down(0, 1)
	two := b.down(0, 2)
	if w, e := b.x.Walk(one, 63); e != api.OK || w != (api.Walk{Level: 1, Table: two, Slot: 3}) {
		t.Error(w, e)
	}
	if w, e := b.x.Walk(one, 64); e != api.OK || w != (api.Walk{Level: 0, Table: one, Slot: 1}) {
		t.Error(w, e)
	}
	if w, e := b.x.Walk(one, 17); e != api.OK || w != (api.Walk{Level: 1, Table: two, Slot: 1}) {
		t.Error(w, e)
	}
}

// What is told is what memory and rows are now: nothing of them is kept.
func TestTablesAreOverThatMemoryAndThoseRows(t *testing.T) {
	b := fresh(t, 12)
	three := b.down(5, 3)
	b.put(three, bytesOf(empty, data(258), empty, shared(1)))
	b.walks(5, api.Walk{Level: 3, Table: three, Slot: 1, Entry: data(258)})
	b.walks(7, api.Walk{Level: 3, Table: three, Slot: 3, Entry: shared(1)})
	other := rtt.New(b.m, b.rows)
	must(t, other.Set(root, 5, destroyed))
	b.walks(5, api.Walk{Level: 3, Table: three, Slot: 1, Entry: destroyed})
	must(t, b.rows.Step(root, api.StateTable, api.Delegated, 0))
	b.refused(api.ErrArg, func() api.Errno { _, e := b.x.Walk(root, 5); return e })
}

// P9.2

func TestSetOfEachEntryOnEachPage(t *testing.T) {
	for _, page := range append(edges(), 1, 2, 3, 4, 27, 126, 129, 254) {
		b := fresh(t, 12)
		three := b.down(page, 3)
		l := four(empty)
		for _, e := range append(leaves(), leaves()[0]) {
			l[page%4] = e
			b.changes(func() { b.set(page, e) }, map[int]api.Granule{three: bytesOf(l...)}, nil, page, e)
		}
		for _, e := range leaves() {
			for i := range 4 {
				l[i] = e
				b.changes(func() { b.set(page/4*4+i, e) }, map[int]api.Granule{three: bytesOf(l...)}, nil, page, i, e)
			}
		}
	}
}

func TestSetOfEntriesThatMayNotBe(t *testing.T) {
	b := fresh(t, 12)
	b.down(5, 3)
	b.set(5, data(9))
	for _, e := range noLeaves() {
		for _, page := range []int{5, 6, 4, 100, 255} { // a way to the level 3, and ways that end too early
			b.refused(api.ErrArg, func() api.Errno { return b.x.Set(root, page, e) }, page, e)
		}
	}
}

func TestSetWhereTheWayEndsTooEarly(t *testing.T) {
	for _, page := range edges() {
		for level := range 3 {
			b := fresh(t, 12)
			b.down(page, level)
			for _, e := range leaves() {
				b.refused(api.ErrTable, func() api.Errno { return b.x.Set(root, page, e) }, page, level, e)
			}
			b.lay(page, level+1)
			_, f := b.x.Destroy(root, page, level+1)
			must(t, f)
			for _, e := range leaves() {
				b.refused(api.ErrTable, func() api.Errno { return b.x.Set(root, page, e) }, page, level, e, "Destroyed")
			}
		}
	}
}

// P9.3

// On each level, below an Empty and below a Destroyed: the new table has four of these, and what stood there leads to it.
func TestCreateOnEachLevel(t *testing.T) {
	for _, page := range append(edges(), 27, 228) {
		for level := 1; level < 4; level++ {
			for _, stood := range []api.Entry{empty, destroyed} {
				b := fresh(t, 12)
				above := b.down(page, level-1)
				l := four(empty)
				if stood == destroyed {
					b.lay(page, level)
					_, e := b.x.Destroy(root, page, level)
					must(t, e, "Destroy", page, level)
					l[slot(page, level-1)] = destroyed
				}
				if b.get(above) != bytesOf(l...) {
					t.Fatal("not laid", b.get(above))
				}
				g := b.free
				l[slot(page, level-1)] = table(g)
				b.changes(func() { b.lay(page, level) },
					map[int]api.Granule{above: bytesOf(l...), g: bytesOf(four(stood)...)},
					map[int]api.Row{g: {State: api.StateTable, Owner: owner}}, page, level, stood)
				for p := first(page, level); p < first(page, level)+many(level); p++ {
					b.walks(p, api.Walk{Level: level, Table: g, Slot: slot(p, level), Entry: stood}, page, level)
				}
			}
		}
	}
}

// A granule of any bytes, the first and the last; and the greatest owner.
func TestCreateOfTheFirstAndTheLastGranule(t *testing.T) {
	m, e := machine.New(api.MaxGranules)
	must(t, e)
	rows, e := granule.New(api.MaxGranules)
	must(t, e)
	x, last := rtt.New(m, rows), api.MaxGranules-1
	for _, g := range []int{0, 300, last} {
		must(t, rows.Step(g, api.Undelegated, api.Delegated, 0))
		must(t, m.Put(g, rubbish(g)))
	}
	must(t, m.Scrub(300))
	must(t, rows.Step(300, api.Delegated, api.StateTable, math.MaxUint64))
	must(t, x.Create(300, math.MaxUint64, last, 255, 1))
	must(t, x.Create(300, math.MaxUint64, 0, 255, 2))
	if w, e := x.Walk(300, 255); e != api.OK || w != (api.Walk{Level: 2, Table: 0, Slot: 3}) {
		t.Error(w, e)
	}
	if w, e := x.Look(300, 255, 1); e != api.OK || w != (api.Walk{Level: 1, Table: last, Slot: 3, Entry: table(0)}) {
		t.Error(w, e)
	}
	for g, want := range map[int]api.Granule{300: bytesOf(empty, empty, empty, table(last)), last: bytesOf(empty, empty, empty, table(0)), 0: {}} {
		if got, e := m.Get(g); e != api.OK || got != want {
			t.Error(g, got, e)
		}
	}
	if row, _ := rows.Row(last); row != (api.Row{State: api.StateTable, Owner: math.MaxUint64}) {
		t.Error(row)
	}
}

// Tables of all levels for all pages: 1 + 4 + 16 + 64.
func TestCreateOfAllTables(t *testing.T) {
	b := whole(t)
	if n := b.rows.Count(api.StateTable, owner); n != 85 {
		t.Error(n, "tables")
	}
	for page := range 256 {
		if w, e := b.x.Walk(root, page); e != api.OK || w.Level != 3 || w.Slot != page%4 || w.Entry != empty {
			t.Error(page, w, e)
		}
	}
}

// whole has tables on all ways.
func whole(t *testing.T) *bench {
	t.Helper()
	b := fresh(t, 100)
	for page := 0; page < 256; page += 4 {
		b.down(page, 3)
	}
	return b
}

// P9.4

// On each level, of four that are Empty, of four that are Destroyed, and of some of both.
func TestDestroyAndFoldOnEachLevel(t *testing.T) {
	for _, page := range append(edges(), 27, 228) {
		for level := 1; level < 4; level++ {
			for mask := range 16 { // a bit for each slot that is Destroyed
				b := fresh(t, 16)
				b.down(page, level-1)
				g := b.lay(page, level)
				l := four(empty)
				for i := range 4 {
					if mask>>i&1 == 1 {
						l[i] = destroyed
						b.destroyAt(first(page, level)+i*many(level)/4, level)
					}
				}
				if b.get(g) != bytesOf(l...) {
					t.Fatal("not laid", mask, b.get(g))
				}
				b.takes(page, level, l)
			}
		}
	}
}

// destroyAt makes the entry of that level Destroyed by which a page's way ends.
func (b *bench) destroyAt(page, level int) {
	b.t.Helper()
	if level == 3 {
		b.set(page, destroyed)
		return
	}
	b.lay(page, level+1)
	g, e := b.x.Destroy(root, page, level+1)
	must(b.t, e, "Destroy", page, level+1)
	if b.free--; g != b.free {
		b.t.Fatal("another granule than was laid", g, b.free)
	}
}

// takes says of the table of that level, which has these four, that Fold, and Destroy, take it away as they should.
func (b *bench) takes(page, level int, l []api.Entry) {
	b.t.Helper()
	w, e := b.x.Look(root, page, level-1)
	must(b.t, e)
	g := w.Entry.Granule
	for name, call := range map[string]func(*rtt.Tables) (int, api.Errno){
		"Destroy": func(x *rtt.Tables) (int, api.Errno) { return x.Destroy(root, page, level) },
		"Fold":    func(x *rtt.Tables) (int, api.Errno) { return x.Fold(root, page, level) },
	} {
		c := &bench{t: b.t, m: b.m.Copy(), rows: b.rows.Copy()}
		c.x = rtt.New(c.m, c.rows)
		left := destroyed
		if name == "Fold" {
			left = l[0]
			if !slices.Equal(l, four(l[0])) {
				c.refused(api.ErrState, func() api.Errno { g, e := call(c.x); return taken(c.t, g, e) }, name, page, level, l)
				continue
			}
		}
		above := c.get(w.Table)
		copy(above[8*w.Slot:8*w.Slot+8], []byte{byte(left.Kind), 0, 0, 0, 0, 0, 0, 0})
		c.changes(func() {
			if got, e := call(c.x); e != api.OK || got != g {
				c.t.Fatal(name, page, level, l, got, e)
			}
		}, map[int]api.Granule{w.Table: above, g: {}}, map[int]api.Row{g: {State: api.Delegated}}, name, page, level, l)
		for p := first(page, level); p < first(page, level)+many(level); p++ {
			c.walks(p, api.Walk{Level: level - 1, Table: w.Table, Slot: w.Slot, Entry: left}, name, page, level)
		}
	}
}

// What a table has beside Empty and Destroyed is in the way, in each slot.
func TestDestroyAndFoldOfWhatHasSomething(t *testing.T) {
	for _, page := range edges() {
		for level := 1; level < 4; level++ {
			for i := range 4 {
				b := fresh(t, 16)
				b.down(page, level)
				at := first(page, level) + i*many(level)/4
				something := []api.Entry{{}}
				if level == 3 {
					something = slices.DeleteFunc(leaves(), func(e api.Entry) bool { return e == empty || e == destroyed })
				} else {
					b.lay(at, level+1)
				}
				for _, e := range something {
					if level == 3 {
						b.set(at, e)
					}
					b.keeps(api.ErrUse, page, level, i, e)
				}
			}
		}
	}
}

// keeps says of a table that neither Destroy nor Fold takes it away.
func (b *bench) keeps(want api.Errno, page, level int, what ...any) {
	b.t.Helper()
	b.refused(want, func() api.Errno { g, e := b.x.Destroy(root, page, level); return taken(b.t, g, e) }, "Destroy", page, level, what)
	b.refused(want, func() api.Errno { g, e := b.x.Fold(root, page, level); return taken(b.t, g, e) }, "Fold", page, level, what)
}

// Four alike that are something: in the way all the same.
func TestFourAlikeThatAreSomething(t *testing.T) {
	b := fresh(t, 12)
	b.down(5, 3)
	for _, e := range leaves() {
		if e == empty || e == destroyed {
			continue
		}
		for page := 4; page < 8; page++ {
			b.set(page, e)
		}
		b.keeps(api.ErrUse, 5, 3, e)
	}
}

func TestDestroyAndFoldOfWhatIsHeld(t *testing.T) {
	for _, page := range edges() {
		for level := 1; level < 4; level++ {
			for _, e := range []api.Entry{empty, destroyed} {
				b := fresh(t, 16)
				g := b.down(page, level)
				for i := range 4 {
					if e == destroyed {
						b.destroyAt(first(page, level)+i*many(level)/4, level)
					}
				}
				must(t, b.rows.Hold(g))
				must(t, b.rows.Hold(g))
				b.keeps(api.ErrUse, page, level, "held twice")
				must(t, b.rows.Let(g))
				b.keeps(api.ErrUse, page, level, "held")
				must(t, b.rows.Let(g))
				b.takes(page, level, four(e))
			}
		}
	}
}

// Whether the tables above are held does not matter.
func TestWhatIsAboveMayBeHeld(t *testing.T) {
	b := fresh(t, 16)
	for level := range 3 {
		must(t, b.rows.Hold(b.down(5, level)))
		b.lay(5, level+1)
	}
	b.set(5, destroyed)
	g, e := b.x.Destroy(root, 5, 3)
	must(t, e, g)
}

func TestDestroyAndFoldWhereTheWayDoesNotLead(t *testing.T) {
	for _, page := range edges() {
		for end := range 3 {
			b := fresh(t, 16)
			b.down(page, end)
			for level := end + 1; level < 4; level++ {
				b.keeps(api.ErrTable, page, level, "Empty on", end)
			}
			b.destroyAt(page, end)
			for level := end + 1; level < 4; level++ {
				b.keeps(api.ErrTable, page, level, "Destroyed on", end)
			}
		}
	}
}

// What was taken away is Delegated, and may be laid again: below a Destroyed it has four of these.
func TestTakenAwayAndLaidAgain(t *testing.T) {
	b := fresh(t, 8)
	b.down(27, 3)
	for range 3 {
		g, e := b.x.Destroy(root, 27, 3)
		must(t, e)
		must(t, b.x.Create(root, owner, g, 27, 3))
		if b.get(g) != bytesOf(four(destroyed)...) {
			t.Error(b.get(g))
		}
		for page := 24; page < 28; page++ {
			b.set(page, empty)
		}
		f, e := b.x.Fold(root, 27, 3)
		must(t, e)
		must(t, b.x.Create(root, owner, f, 27, 3))
		if g != f || b.get(g) != (api.Granule{}) {
			t.Error(g, f, b.get(g))
		}
	}
}

// P9.5

func TestLeavesOfNothing(t *testing.T) {
	b := fresh(t, 12)
	if l := b.leaves(root); len(l) != 0 {
		t.Error("a new root", l)
	}
	b.down(5, 3)
	if l := b.leaves(root); len(l) != 0 {
		t.Error("all empty", l)
	}
	// Destroyed above the level 3 is no leaf.
	b.destroyAt(100, 0)
	b.destroyAt(20, 1)
	b.destroyAt(8, 2)
	if l := b.leaves(root); len(l) != 0 {
		t.Error("destroyed above", l)
	}
	for _, g := range []int{0, 1, 2, spare + 3, 11, 12, 13, -1, -2, math.MinInt, math.MaxInt, 1 << 32} {
		if l := b.leaves(g); len(l) != 0 {
			t.Error("no Table", g, l)
		}
	}
}

func TestLeavesOfOnePage(t *testing.T) {
	for page := range 256 {
		for _, e := range leaves() {
			b := fresh(t, 8)
			b.down(page, 3)
			b.set(page, e)
			var want []item
			if e != empty {
				want = []item{{page, e}}
			}
			if l := b.leaves(root); !slices.Equal(l, want) {
				t.Fatal(page, e, l)
			}
		}
	}
}

// All pages below a table of each level.
func TestLeavesOfAllBelowATable(t *testing.T) {
	b := whole(t)
	kinds := slices.DeleteFunc(leaves(), func(e api.Entry) bool { return e == empty })
	for _, page := range edges() {
		for level := range 4 {
			var want []item
			for p := range 256 {
				e := empty
				if first(p, level) == first(page, level) {
					e = kinds[p%len(kinds)]
					want = append(want, item{p, e})
				}
				b.set(p, e)
			}
			if l := b.leaves(root); len(l) != many(level) || !slices.Equal(l, want) {
				t.Fatal(page, level, l)
			}
		}
	}
}

// Left at once, or behind any number, and gone over again: the same from the beginning on.
func TestLeavesLeftAndGoneOverTwice(t *testing.T) {
	b := whole(t)
	var want []item
	for page := 3; page < 256; page += 5 {
		b.set(page, data(page))
		want = append(want, item{page, data(page)})
	}
	all := b.x.Leaves(root)
	for n := range len(want) + 1 {
		var got []item
		for page, e := range all {
			if len(got) == n {
				break
			}
			got = append(got, item{page, e})
		}
		if !slices.Equal(got, want[:n]) {
			t.Fatal(n, got)
		}
	}
	calls := 0
	all(func(int, api.Entry) bool { calls++; return false })
	if calls != 1 {
		t.Error("told on behind a no", calls)
	}
	for range 2 {
		var got []item
		for page, e := range all {
			got = append(got, item{page, e})
		}
		if !slices.Equal(got, want) {
			t.Fatal(got)
		}
	}
}

// As they are when Leaves is called: not what is done later, ahead of going over them or meanwhile.
func TestLeavesAsTheyWere(t *testing.T) {
	b := fresh(t, 20)
	var want []item
	for _, page := range []int{4, 5, 7, 130, 255} {
		b.down(page, 3)
		b.set(page, data(page))
		want = append(want, item{page, data(page)})
	}
	before := b.x.Leaves(root)
	b.set(6, destroyed)
	b.set(7, empty)
	var got []item
	for page, e := range before {
		got = append(got, item{page, e})
		for _, p := range []int{4, 128, 131, 252, 255} {
			b.set(p, shared(8))
		}
		b.set(130, empty)
	}
	if !slices.Equal(got, want) {
		t.Error(got)
	}
	now := []item{{4, shared(8)}, {5, data(5)}, {6, destroyed}, {128, shared(8)}, {131, shared(8)}, {252, shared(8)}, {255, shared(8)}}
	if l := b.leaves(root); !slices.Equal(l, now) {
		t.Error(l)
	}
	must(t, b.rows.Step(root, api.StateTable, api.Delegated, 0))
	got = nil
	for page, e := range before {
		got = append(got, item{page, e})
	}
	if !slices.Equal(got, want) {
		t.Error("gone over again", got)
	}
}

func TestBlank(t *testing.T) {
	b := fresh(t, 20)
	if !b.x.Blank(root) {
		t.Error("a new root")
	}
	for level := range 3 {
		g := b.down(5, level)
		if !b.x.Blank(g) {
			t.Error("a new table", level)
		}
		b.lay(5, level+1)
		if b.x.Blank(g) {
			t.Error("it leads to a table", level)
		}
	}
	g := b.down(5, 3)
	for _, e := range leaves() {
		for page := 4; page < 8; page++ {
			b.set(page, e)
			if b.x.Blank(g) != (e == empty) {
				t.Error(page, e)
			}
			b.set(page, empty)
			if !b.x.Blank(g) {
				t.Error("again", page)
			}
		}
	}
	b.destroyAt(64, 0)
	if b.x.Blank(root) {
		t.Error("one is Destroyed")
	}
}

// The other states are no tables, whatever bytes; nor is what there is not.
func TestBlankOfWhatIsNoTable(t *testing.T) {
	b := fresh(t, 20)
	for i, s := range otherStates() {
		g := 10 + i
		b.makes(g, s)
		for _, bytes := range []api.Granule{{}, bytesOf(four(destroyed)...)} {
			b.put(g, bytes)
			if b.x.Blank(g) {
				t.Error(s)
			}
		}
	}
	for _, g := range []int{-1, -2, 20, 21, math.MinInt, math.MaxInt, 1 << 32, api.MaxGranules} {
		if b.x.Blank(g) {
			t.Error(g)
		}
	}
}

func otherStates() []api.GState {
	return []api.GState{api.Undelegated, api.Delegated, api.StateRD, api.StateRec, api.StateData}
}

// makes makes of a granule that is Delegated one of that state.
func (b *bench) makes(g int, s api.GState) {
	b.t.Helper()
	switch s {
	case api.Delegated:
	case api.Undelegated:
		must(b.t, b.rows.Step(g, api.Delegated, s, 0), g, s)
	default:
		must(b.t, b.rows.Step(g, api.Delegated, s, owner), g, s)
	}
}

// P9.6

// A page is what was Set there last, whatever is done beside it.
func TestAPageIsWhatWasSetLast(t *testing.T) {
	b := whole(t)
	var last [256]api.Entry
	kinds := leaves()
	for i := range 2000 {
		page := i * 97 % 256
		last[page] = kinds[i*7%len(kinds)]
		b.set(page, last[page])
		if i%50 == 0 {
			for p, e := range last {
				if w, f := b.x.Walk(root, p); f != api.OK || w.Entry != e {
					t.Fatal(i, p, w, f, e)
				}
			}
		}
	}
}

// Two pages with a way to the level 3 have two entries: no two ways end at one place.
func TestTwoPagesHaveTwoEntries(t *testing.T) {
	b := whole(t)
	seen := map[[2]int]int{}
	for page := range 256 {
		w, e := b.x.Walk(root, page)
		must(t, e)
		if other, is := seen[[2]int{w.Table, w.Slot}]; is {
			t.Error("one place", page, other, w)
		}
		seen[[2]int{w.Table, w.Slot}] = page
	}
	for page := range 256 {
		b.set(page, data(page))
	}
	for page := range 256 {
		if w, e := b.x.Walk(root, page); e != api.OK || w.Entry != data(page) {
			t.Error(page, w, e)
		}
	}
}

// What Create lays, Fold of the same takes away: nothing is changed but that granule's bytes.
func TestCreateThenFold(t *testing.T) {
	for page := range 256 {
		for level := 1; level < 4; level++ {
			for _, stood := range []api.Entry{empty, destroyed} {
				b := fresh(t, 12)
				b.down(page, level-1)
				if stood == destroyed {
					b.destroyAt(page, level-1)
				}
				g := b.free
				b.changes(func() {
					b.lay(page, level)
					if f, e := b.x.Fold(root, page, level); f != g || e != api.OK {
						t.Fatal(page, level, stood, f, e)
					}
				}, map[int]api.Granule{g: {}}, nil, page, level, stood)
			}
		}
	}
}
