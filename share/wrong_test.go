package share_test

import (
	"math"
	"slices"
	"testing"

	"anchorite/api"
	"anchorite/granule"
	"anchorite/machine"
	"anchorite/oracle"
	"anchorite/paging"
	"anchorite/realm"
	"anchorite/rtt"
	"anchorite/share"
)

// partless are parts of which one, or some, are nil, or zero ones, or such as were emptied.
func partless(p paging.Parts) map[string]paging.Parts {
	emptied := oracle.New(true, digest(1), digest(2))
	realms := realm.New(emptied)
	*emptied = oracle.Oracle{}
	out := map[string]paging.Parts{"none": {}, "zero ones": {O: &oracle.Oracle{}, M: &machine.Memory{}, T: &granule.Table{}, X: &rtt.Tables{}, R: &realm.Realms{}}}
	without := func(name string, do func(p *paging.Parts)) {
		c := p
		do(&c)
		out[name] = c
	}
	without("no oracle", func(p *paging.Parts) { p.O = nil })
	without("a zero oracle", func(p *paging.Parts) { p.O = &oracle.Oracle{} })
	without("an emptied oracle", func(p *paging.Parts) { p.O = emptied })
	without("no memory", func(p *paging.Parts) { p.M = nil })
	without("a zero memory", func(p *paging.Parts) { p.M = new(machine.Memory) })
	without("no rows", func(p *paging.Parts) { p.T = nil })
	without("zero rows", func(p *paging.Parts) { p.T = new(granule.Table) })
	without("no tables", func(p *paging.Parts) { p.X = nil })
	without("zero tables", func(p *paging.Parts) { p.X = new(rtt.Tables) })
	without("tables over nothing", func(p *paging.Parts) { p.X = rtt.New(nil, nil) })
	without("tables over no memory", func(p *paging.Parts) { p.X = rtt.New(nil, p.T) })
	without("tables over no rows", func(p *paging.Parts) { p.X = rtt.New(p.M, nil) })
	without("no realms", func(p *paging.Parts) { p.R = nil })
	without("zero realms", func(p *paging.Parts) { p.R = new(realm.Realms) })
	without("realms of an emptied oracle", func(p *paging.Parts) { p.R = realms })
	without("an oracle alone", func(p *paging.Parts) { *p = paging.Parts{O: p.O} })
	without("memory alone", func(p *paging.Parts) { *p = paging.Parts{M: p.M} })
	return out
}

// wrongPages are none of the open ones: near, below 0, protected ones, far beyond, and such whose lowest bits are one's.
func wrongPages() []int {
	return []int{-1, -2, -128, -127, -256, math.MinInt32, math.MinInt, math.MinInt + 128, 0, 1, 3, 124, 126, 127, 256, 257, 384, 1 << 16, 1 << 31, 1<<32 + 128, 1 << 62, math.MaxInt - 1, math.MaxInt}
}

// nowhere are descriptors at which no realm is.
func nowhere() []int {
	return []int{-1, 0, rd - 1, rd + 1, spare, other - 1, other + 1, hosts, many - 1, many, many + rd, 1<<32 + rd, math.MinInt, math.MinInt + rd, math.MaxInt}
}

// noGranules are granules that there are not.
func noGranules() []int {
	return []int{-1, -2, -many, many, many + 1, many + hosts, 4095, 4096, 1 << 31, 1 << 32, 1<<32 + hosts, math.MinInt, math.MinInt + hosts, math.MaxInt}
}

// refused says that Map and Unmap are, so, and change nothing.
func (b *bench) refused(want api.Errno, at, page, g int) {
	b.t.Helper()
	if e := share.Map(b.p, at, page, g); e != want {
		b.t.Fatal("Map", at, page, g, e, "not", want)
	}
	if h, e := share.Unmap(b.p, at, page); h != 0 || e != want {
		b.t.Fatal("Unmap", at, page, h, e, "not", want)
	}
	b.asIs("what is refused", at, page, g)
}

// blind says that from that root on there is nothing.
func (b *bench) blind(p paging.Parts, from int, what ...any) {
	b.t.Helper()
	for _, addr := range []uint64{0, 8, 16384, 16392, 32760, 4, 32768, 1<<64 - 8, 1<<64 - 1} {
		if x, is := share.Load(p, from, addr); x != 0 || is {
			b.t.Fatal(what, "Load", from, addr, x, is)
		}
		if x, is := share.Fetch(p, from, addr); x != 0 || is {
			b.t.Fatal(what, "Fetch", from, addr, x, is)
		}
		if is, open := share.Store(p, from, addr, 77); is || open {
			b.t.Fatal(what, "Store", from, addr, is, open)
		}
	}
	if got := collect(p, from); got != nil {
		b.t.Fatal(what, "Open", from, got)
	}
	b.asIs(what...)
}

// Each part nil, and each a zero one: told ahead of all that is wrong beside it.
func TestNoParts(t *testing.T) {
	b := fresh(t)
	b.lays(rd, 0, spare, bytesOf(1))
	b.right(b.mapIn(rd, 128, hosts))
	for name, p := range partless(b.p) {
		for _, at := range []int{rd, other, 7, -1} {
			for _, page := range []int{128, 129, 140, 255, 5, 256, -1} {
				for _, g := range []int{hosts, hosts + 1, spare, -1, many} {
					if e := share.Map(p, at, page, g); e != api.ErrNil {
						t.Fatal(name, "Map", at, page, g, e)
					}
				}
				if g, e := share.Unmap(p, at, page); g != 0 || e != api.ErrNil {
					t.Fatal(name, "Unmap", at, page, g, e)
				}
			}
		}
		for _, from := range []int{root, other + 1, spare, -1} {
			b.blind(p, from, name)
		}
	}
	b.goes(root, pair{128, hosts})
}

// No realm at rd: told ahead of a page that is none.
func TestNoRealm(t *testing.T) {
	b := fresh(t)
	for _, at := range nowhere() {
		for _, page := range append(wrongPages(), 128, 140, 255) {
			b.refused(api.ErrNone, at, page, hosts)
			b.refused(api.ErrNone, at, page, -1)
		}
	}
	b.right(b.mapIn(rd, 128, hosts))
	ok(t, b.p.R.Drop(rd))
	b.adopts()
	b.refused(api.ErrNone, rd, 128, hosts)
	// Its tables are still there.
	if x, is := share.Load(b.p, root, 16384); !is || x == 0 {
		t.Error(x, is)
	}
}

// A page that is no open one: told ahead of its way.
func TestWrongPages(t *testing.T) {
	b := fresh(t)
	b.lays(rd, 0, spare, bytesOf(1))
	for _, page := range wrongPages() {
		for _, g := range []int{hosts, spare, -1} {
			b.refused(api.ErrArg, rd, page, g)
			b.refused(api.ErrArg, other, page, g)
		}
	}
	// Also of one that is EntryShared.
	b.is(rd, 1, shared(hosts))
	b.refused(api.ErrArg, rd, 1, hosts)
}

// A way that ends on the level 0, 1 or 2, by what was Empty, or was destroyed: told ahead of the granule.
func TestWaysThatEndAbove(t *testing.T) {
	b := fresh(t)
	for _, level := range []int{3, 2} {
		_, e := b.p.X.Destroy(root, 252, level)
		ok(t, e)
	}
	b.adopts()
	for _, page := range []int{132, 143, 144, 191, 192, 239, 240, 251, 252, 255} {
		for _, g := range []int{hosts, spare, -1} {
			b.refused(api.ErrTable, rd, page, g)
		}
		says(b, b.load(root, uint64(size*page)), 0, false)
		says(b, b.store(root, uint64(size*page), 5), false, false)
	}
	b.refused(api.ErrTable, other, 255, hosts)
}

// A realm whose root is no table has no ways.
func TestARootThatIsNoTable(t *testing.T) {
	for _, at := range []int{rd, spare, hosts, many - 1, many, 1 << 40, math.MaxInt} {
		b := fresh(t)
		ok(t, b.p.R.Drop(rd))
		_, e := b.p.R.Create(rd, at, api.RealmParams{Nodes: size * hosts}, digest(1))
		ok(t, e)
		b.adopts()
		b.refused(api.ErrTable, rd, 128, hosts)
		b.refused(api.ErrArg, rd, 127, hosts)
	}
}

// Roots that are no tables: granules of each other state, and such as there are not.
func TestWrongRoots(t *testing.T) {
	b := fresh(t)
	b.lays(rd, 0, spare, bytesOf(1))
	b.right(b.mapIn(rd, 128, hosts))
	for _, from := range append(noGranules(), rd, other, spare, spare+1, hosts, 0, many-1) {
		b.blind(b.p, from, "no table")
	}
}

// Each kind of an open page, told ahead of the granule: what Map asks for, and what Unmap does.
func TestWrongKinds(t *testing.T) {
	for _, page := range []int{128, 255} {
		for _, e := range []api.Entry{{Kind: api.EntryDestroyed}, {Kind: api.EntryExported}, {Kind: api.EntryAwaiting}, {Kind: api.EntryData, Granule: spare}, {Kind: api.EntryData, Granule: hosts}, {Kind: api.EntryData}} {
			b := fresh(t)
			b.is(rd, page, e)
			for _, g := range []int{hosts, hosts + 1, spare, -1, many} {
				b.refused(api.ErrState, rd, page, g)
			}
		}
		b := fresh(t)
		says(b, b.mapOut(rd, page), 0, api.ErrState)
		b.right(b.mapIn(rd, page, hosts))
		b.wrong(b.mapIn(rd, page, hosts), api.ErrState)
	}
}

// A table on the last level, laid by a way that begins lower: it is not Empty, and has no words.
func TestATableOnTheLastLevel(t *testing.T) {
	b := fresh(t)
	w, e := b.p.X.Look(root, 128, 1)
	ok(t, e)
	ok(t, b.p.X.Create(w.Table, 1, spare, 0, 3))
	b.adopts()
	b.isAt(128, api.Entry{Kind: api.EntryTable, Granule: spare})
	b.refused(api.ErrState, rd, 128, hosts)
	says(b, b.load(root, 16384), 0, false)
	says(b, b.store(root, 16384, 5), false, false)
	b.goes(root)
}

// A granule that is not the host's: each that there is not, each of another state, held or not.
func TestWrongOwners(t *testing.T) {
	b := fresh(t)
	b.lays(rd, 0, spare, bytesOf(1))
	b.lays(other, 0, spare+1, bytesOf(1))
	ok(t, b.p.T.Step(spare+2, api.Delegated, api.StateRec, 1))
	b.adopts()
	b.holds(spare+3, 5)
	b.holds(spare+4, most)
	for _, g := range append(noGranules(), rd, root, root+1, other, other+1, spare, spare+1, spare+2, spare+3, spare+4, spare+5, mine, hosts-1) {
		b.wrong(b.mapIn(rd, 128, g), api.ErrOwner)
		b.wrong(b.mapIn(other, 131, g), api.ErrOwner)
	}
}

// An entry that Map did not lay: no call has an error of a granule that is not held, or that there is not.
func TestSpoiltEntries(t *testing.T) {
	for _, g := range []int{0, hosts, many - 1, spare, rd} {
		b := fresh(t)
		b.is(rd, 129, shared(g))
		if h, e := share.Unmap(b.p, rd, 129); h != g || e != api.OK {
			t.Error("Unmap", g, h, e)
		}
		b.isAt(129, api.Entry{})
		if row, e := b.p.T.Row(g); e != api.OK || row != b.a.rows[g] {
			t.Error("the row", g, row, e)
		}
	}
	for _, g := range []int{many, 4095} {
		b := fresh(t)
		ok(t, b.p.X.Set(root, 129, shared(g)))
		if got := collect(b.p, root); !slices.Equal(got, []pair{{129, g}}) {
			t.Error("Open", got)
		}
		if h, e := share.Unmap(b.p, rd, 129); h != g || e != api.OK {
			t.Error("Unmap", g, h, e)
		}
		b.isAt(129, api.Entry{})
		b.asIs("as it was")
	}
}

// fault is something that is wrong, with the error that is told of it, and what mends it.
type fault struct {
	e    api.Errno
	mend func()
}

// inOrder says that a call tells its faults in their order, as one is mended behind the other; then it is done.
func inOrder(b *bench, name string, do func() api.Errno, l []fault) {
	b.t.Helper()
	for i, f := range l {
		if e := do(); e != f.e {
			b.t.Fatal(name, "the fault", i, e, "not", f.e)
		}
		b.asIs(name, i)
		f.mend()
	}
	b.right(do())
}

// Several faults at once: the first of them is told.
func TestOrderOfErrors(t *testing.T) {
	b := fresh(t)
	b.right(b.mapIn(rd, 129, hosts))
	b.holds(hosts+1, most)
	p, at, page, g := paging.Parts{}, 7, 127, spare
	ahead := []fault{
		{api.ErrNil, func() { p = b.p }},
		{api.ErrNone, func() { at = rd }},
		{api.ErrArg, func() { page = 140 }},
	}
	inOrder(b, "Map", func() api.Errno { return share.Map(p, at, page, g) }, append(slices.Clone(ahead),
		fault{api.ErrTable, func() { page = 129 }},
		fault{api.ErrState, func() { page = 130 }},
		fault{api.ErrOwner, func() { g = many }},
		fault{api.ErrOwner, func() { g = hosts + 1 }},
		fault{api.ErrLimit, func() { b.holds(hosts+1, most-1) }}))
	b.isAt(130, shared(hosts+1))
	b.isHeld(hosts+1, most)

	b = fresh(t)
	b.right(b.mapIn(rd, 129, hosts))
	p, at, page = paging.Parts{}, 7, 127
	ahead[0].mend = func() { p = b.p }
	inOrder(b, "Unmap", func() api.Errno { _, e := share.Unmap(p, at, page); return e }, append(ahead,
		fault{api.ErrTable, func() { page = 130 }},
		fault{api.ErrState, func() { page = 129 }}))
	b.isAt(129, api.Entry{})
	b.isHeld(hosts, 0)
}
