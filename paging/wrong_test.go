package paging_test

import (
	"math"
	"testing"

	"anchorite/api"
	"anchorite/granule"
	"anchorite/machine"
	"anchorite/oracle"
	"anchorite/paging"
	"anchorite/realm"
	"anchorite/rtt"
)

// partless are parts of which one, or some, are nil, or zero ones, or such as were emptied.
func partless(p paging.Parts) map[string]paging.Parts {
	emptied := oracle.New(true, digest(1), digest(2))
	realms := realm.New(emptied)
	*emptied = oracle.Oracle{}
	out := map[string]paging.Parts{"none": {}, "zero ones": {O: &oracle.Oracle{}, M: &machine.Memory{}, T: &granule.Table{}, X: &rtt.Tables{}, R: &realm.Realms{}}}
	without := func(name string, do func(p *paging.Parts)) {
		c := p
		do(&c)
		out[name] = c
	}
	without("no oracle", func(p *paging.Parts) { p.O = nil })
	without("a zero oracle", func(p *paging.Parts) { p.O = &oracle.Oracle{} })
	without("an emptied oracle", func(p *paging.Parts) { p.O = emptied })
	without("no memory", func(p *paging.Parts) { p.M = nil })
	without("a zero memory", func(p *paging.Parts) { p.M = new(machine.Memory) })
	without("no rows", func(p *paging.Parts) { p.T = nil })
	without("zero rows", func(p *paging.Parts) { p.T = new(granule.Table) })
	without("no tables", func(p *paging.Parts) { p.X = nil })
	without("zero tables", func(p *paging.Parts) { p.X = new(rtt.Tables) })
	without("tables over nothing", func(p *paging.Parts) { p.X = rtt.New(nil, nil) })
	without("tables over no memory", func(p *paging.Parts) { p.X = rtt.New(nil, p.T) })
	without("tables over no rows", func(p *paging.Parts) { p.X = rtt.New(p.M, nil) })
	without("no realms", func(p *paging.Parts) { p.R = nil })
	without("zero realms", func(p *paging.Parts) { p.R = new(realm.Realms) })
	without("realms of an emptied oracle", func(p *paging.Parts) { p.R = realms })
	without("realms of no oracle", func(p *paging.Parts) { p.R = realm.New(nil) })
	without("copies of none", func(p *paging.Parts) {
		p.O, p.M, p.T, p.R = (*oracle.Oracle)(nil).Copy(), new(machine.Memory).Copy(), new(granule.Table).Copy(), p.R.Copy(nil)
	})
	without("an oracle alone", func(p *paging.Parts) { *p = paging.Parts{O: p.O} })
	without("realms alone", func(p *paging.Parts) { *p = paging.Parts{R: p.R} })
	return out
}

// call is all that calls take.
type call struct {
	at, page, g, host int
	counter           uint64
}

// answers are the errors of all calls, each one beside what it answers otherwise.
func answers(t *testing.T, p paging.Parts, c call) map[string]api.Errno {
	t.Helper()
	out := map[string]api.Errno{
		"Place":  p.Place(c.at, c.page, c.g, bytesOf(3)),
		"Zero":   p.Zero(c.at, c.page, c.g),
		"Import": p.Import(c.at, c.page, c.g, c.host, c.counter),
	}
	n, e := p.Export(c.at, c.page, c.host)
	out["Export"] = e
	g, f := p.Destroy(c.at, c.page)
	out["Destroy"] = f
	is, h := p.Reclaim(c.at, c.page)
	out["Reclaim"] = h
	x, i := p.Page(c.at, c.page)
	out["Page"] = i
	if e != api.OK && n != 0 || f != api.OK && g != 0 || h != api.OK && is || i != api.OK && x != (api.Granule{}) {
		t.Fatal("something beside an error", c, n, g, is, x)
	}
	return out
}

// allRefuse says that all calls are refused so, and that nothing is changed, nor asked.
func (b *bench) allRefuse(want api.Errno, c call) {
	b.t.Helper()
	for name, e := range answers(b.t, b.p, c) {
		if want == api.ErrTable && name == "Reclaim" {
			if e != api.OK {
				b.t.Fatal(name, c, e)
			}
		} else if e != want {
			b.t.Fatal(name, c, e, "not", want)
		}
	}
	b.asIs("what is refused", c)
}

// wrongPages are none of the protected ones: near, below 0, open ones, far beyond, and such whose lowest bits are one's.
func wrongPages() []int {
	return []int{-1, -2, -128, -256, math.MinInt32, math.MinInt, math.MinInt + 2, 128, 129, 130, 131, 255, 256, 258, 1 << 16, 1 << 31, 1<<32 + 2, 1 << 62, math.MaxInt - 1, math.MaxInt}
}

// nowhere are descriptors at which no realm is.
func nowhere() []int {
	return []int{-1, 0, rd - 1, rd + 1, spare, other - 1, other + 1, dst, many - 1, many, many + rd, 1<<32 + rd, math.MinInt, math.MinInt + rd, math.MaxInt}
}

// noGranules are granules that there are not.
func noGranules() []int {
	return []int{-1, -2, -many, many, many + 1, many + spare, 4095, 4096, 1 << 31, 1<<32 + spare, 1<<32 + dst, math.MinInt, math.MinInt + dst, math.MaxInt}
}

// Each part nil, and each a zero one: told ahead of all that is wrong beside it.
func TestNoParts(t *testing.T) {
	for _, m := range []mode{modes()[0], modes()[2]} {
		b := fresh(t, m)
		b.lays(rd, 0, spare, bytesOf(1))
		b.lays(rd, 1, spare+1, bytesOf(1))
		b.takes(rd, 1, dst)
		for name, p := range partless(b.p) {
			for _, c := range []call{{rd, 0, spare + 2, dst, 1}, {rd, 1, spare + 2, dst, 1}, {rd, 2, spare + 2, dst, 1}, {}, {rd, 9, spare, dst, 1}, {7, 0, spare, dst, 1}, {-1, -1, -1, -1, last + 1}, {rd, 128, many, many, 0}} {
				for call, e := range answers(t, p, c) {
					if e != api.ErrNil {
						t.Fatal(name, call, c, e)
					}
				}
				b.asIs(name)
			}
		}
	}
}

// No realm at rd: told ahead of a page that is none.
func TestNoRealm(t *testing.T) {
	b := fresh(t, modes()[2])
	b.lays(rd, 0, spare, bytesOf(1))
	for _, at := range nowhere() {
		for _, page := range append(wrongPages(), 0, 9, 127) {
			b.allRefuse(api.ErrNone, call{at, page, spare + 1, dst, 1})
		}
		b.allRefuse(api.ErrNone, call{at, 0, -1, -1, last + 1})
	}
}

func TestWrongPages(t *testing.T) {
	b := fresh(t, modes()[2])
	b.lays(rd, 0, spare, bytesOf(1))
	for _, s := range []api.RState{api.New, api.Active, api.Dead} {
		b.becomes(rd, s)
		for _, page := range wrongPages() {
			b.allRefuse(api.ErrArg, call{rd, page, spare + 1, dst, 1})
			b.allRefuse(api.ErrArg, call{rd, page, -1, many, last + 1})
		}
	}
}

// A way that ends on the level 0, 1 or 2, by what was Empty, or was destroyed.
func TestWaysThatEndAbove(t *testing.T) {
	b := fresh(t, modes()[2])
	for i, page := range []int{64, 124} {
		b.lays(rd, page, spare+i, bytesOf(1))
		says(b, b.destroy(rd, page), spare+i)
	}
	_, e := b.p.X.Destroy(root, 124, 3)
	ok(t, e)
	_, e = b.p.X.Destroy(root, 124, 2)
	ok(t, e)
	b.adopts(b.a.mode)
	for _, s := range []api.RState{api.New, api.Active, api.Dead} {
		b.becomes(rd, s)
		for _, page := range []int{4, 15, 16, 63, 68, 79, 80, 111, 112, 124, 127} {
			b.allRefuse(api.ErrTable, call{rd, page, spare + 5, dst, 1})
			b.allRefuse(api.ErrTable, call{rd, page, -1, many, last + 1})
		}
		b.allRefuse(api.ErrTable, call{other, 64, spare + 5, dst, 1})
	}
}

// A realm whose root is no table has no ways.
func TestARootThatIsNoTable(t *testing.T) {
	for _, at := range []int{rd, spare, dst, nodes, many, 1 << 40, math.MaxInt} {
		b := fresh(t, modes()[2])
		ok(t, b.p.R.Drop(rd))
		_, e := b.p.R.Create(rd, at, api.RealmParams{Nodes: size * nodes}, digest(1))
		ok(t, e)
		b.adopts(b.a.mode)
		b.allRefuse(api.ErrTable, call{rd, 0, spare, dst, 1})
		b.allRefuse(api.ErrArg, call{rd, 128, spare, dst, 1})
	}
}

// kinds are all that a page may be.
func kinds() []api.EntryKind {
	return []api.EntryKind{api.EntryEmpty, api.EntryData, api.EntryDestroyed, api.EntryExported, api.EntryAwaiting}
}

// each has, of each state and each kind, a bench with a realm in that state whose page is of that kind, out as by the counter 1 at dst.
func each(t *testing.T, page int, do func(b *bench, s api.RState, k api.EntryKind)) {
	for _, s := range []api.RState{api.New, api.Active, api.Dead} {
		for _, k := range kinds() {
			b := fresh(t, modes()[2])
			// An entry without a granule has the number 0: that one is another page's.
			b.lays(rd, 3, 0, bytesOf(4))
			if k != api.EntryEmpty {
				b.lays(rd, page, spare, bytesOf(1))
			}
			switch k {
			case api.EntryExported:
				b.takes(rd, page, dst)
			case api.EntryDestroyed, api.EntryAwaiting:
				says(b, b.destroy(rd, page), spare)
			}
			if k == api.EntryAwaiting {
				says(b, b.reclaim(rd, page), true)
			}
			b.becomes(rd, s)
			do(b, s, k)
		}
	}
}

// Each call in each state of a realm, of each kind of page: which may be, as the chapter says.
func TestStatesAndKinds(t *testing.T) {
	for _, page := range []int{0, 127} {
		each(t, page, func(b *bench, s api.RState, k api.EntryKind) {
			lives := s != api.Dead
			may := map[string]bool{
				"Place":   s == api.New && k == api.EntryEmpty,
				"Zero":    lives && k == api.EntryAwaiting,
				"Export":  lives && k == api.EntryData,
				"Import":  lives && k == api.EntryExported,
				"Destroy": k == api.EntryData || k == api.EntryExported,
				"Page":    k == api.EntryData,
			}
			asked := b.asks()
			for name, is := range may {
				c := b.apart()
				got := map[string]func() api.Errno{
					"Place":   func() api.Errno { return c.place(rd, page, spare+1, bytesOf(2)) },
					"Zero":    func() api.Errno { return c.zero(rd, page, spare+1) },
					"Export":  func() api.Errno { return c.export(rd, page, dst+1).e },
					"Import":  func() api.Errno { return c.bringIn(rd, page, spare+1, dst, 1) },
					"Destroy": func() api.Errno { return c.destroy(rd, page).e },
					"Page":    func() api.Errno { return c.page(rd, page).e },
				}[name]()
				want := api.OK
				if !is {
					want = api.ErrState
					if c.asks() != asked {
						t.Error(name, "asked something")
					}
				}
				if got != want {
					t.Error(name, "of a realm", s, "and a page", k, got, "not", want)
				}
			}
			says(b, b.reclaim(rd, page), k == api.EntryDestroyed)
		})
	}
}

// granulesOf are granules of every state but free ones, of both realms, held and not.
func granulesOf(b *bench) map[api.GState][]int {
	for i, page := range []int{124, 125} {
		b.lays(rd, page, spare+10+i, bytesOf(1))
		b.lays(other, page, spare+12+i, bytesOf(1))
	}
	for i, s := range []api.GState{api.StateRec, api.StateRD} {
		b.step(spare+20+i, api.Delegated, s, 1)
		b.step(spare+22+i, api.Delegated, s, 2)
	}
	b.hold(spare + 22)
	return map[api.GState][]int{
		api.Undelegated: {dst, mine, many - 1, nodes, nodes + 63, otherNodes},
		api.StateRD:     {rd, other, spare + 21, spare + 23},
		api.StateRec:    {spare + 20, spare + 22},
		api.StateTable:  {root, root + 1, other + 1},
		api.StateData:   {spare + 10, spare + 11, spare + 12, spare + 13},
	}
}

// A granule that a page is to have: each that there is not, each of another state, each that is held.
func TestWrongFreeGranules(t *testing.T) {
	b := fresh(t, modes()[2])
	b.lays(rd, 0, spare, bytesOf(1))
	b.takes(rd, 0, dst)
	b.lays(rd, 1, spare, bytesOf(1))
	says(b, b.destroy(rd, 1), spare)
	says(b, b.reclaim(rd, 1), true)
	of := granulesOf(b)
	asked := b.asks()
	try := func(g int, want api.Errno) {
		t.Helper()
		b.wrong(b.bringIn(rd, 0, g, dst, 1), want)
		b.wrong(b.bringIn(rd, 0, g, -1, last+1), want)
		b.wrong(b.zero(rd, 1, g), want)
		b.wrong(b.place(rd, 2, g, bytesOf(5)), want)
	}
	for _, g := range noGranules() {
		try(g, api.ErrArg)
	}
	for _, l := range of {
		for _, g := range l {
			try(g, api.ErrState)
		}
	}
	for range 3 {
		b.hold(spare + 1)
		try(spare+1, api.ErrUse)
	}
	if b.asks() != asked {
		t.Error("asked something")
	}
	for range 3 {
		b.let(spare + 1)
	}
	b.right(b.bringIn(rd, 0, spare+1, dst, 1))
	b.right(b.zero(rd, 1, spare+2))
	b.right(b.place(rd, 2, spare+3, bytesOf(5)))
}

// A granule that is not the host's, where it should be: each that there is not, each of another state, also free ones. That it is held is no matter.
func TestWrongGranulesOfTheHost(t *testing.T) {
	b := fresh(t, modes()[2])
	b.lays(rd, 0, spare, bytesOf(1))
	x := b.takes(rd, 0, dst)
	b.lays(rd, 1, spare, bytesOf(2))
	of := granulesOf(b)
	asked := b.asks()
	try := func(g int) {
		t.Helper()
		b.wrong(b.bringIn(rd, 0, spare+1, g, 1), api.ErrOwner)
		b.wrong(b.bringIn(rd, 0, spare+1, g, last+1), api.ErrOwner)
		refuses(b, b.export(rd, 1, g), api.ErrOwner)
	}
	for _, g := range append(noGranules(), spare, spare+1, spare+2, 0, mine-1) {
		try(g)
	}
	for s, l := range of {
		for _, g := range l {
			if s != api.Undelegated {
				try(g)
			}
		}
	}
	if b.asks() != asked {
		t.Error("asked something")
	}
	b.hold(dst)
	b.put(otherNodes+9, x.sealed)
	c := b.apart()
	b.right(b.bringIn(rd, 0, spare+1, dst, 1))
	c.right(c.bringIn(rd, 0, spare+1, otherNodes+9, 1))
	b.gets(rd, 0, bytesOf(1))
	c.gets(rd, 0, bytesOf(1))
	says(b, b.export(rd, 1, dst), 2)
	says(c, c.export(rd, 1, otherNodes), 2)
}

// Entries of pages that no call lays: no call has an error of a granule that is none's, or another's, or that there is not; and nothing panics.
func TestSpoiltEntries(t *testing.T) {
	spoilt := func(m mode, g int) *bench {
		b := fresh(t, m)
		b.lays(other, 0, spare+1, bytesOf(1))
		b.lays(rd, 2, spare+2, bytesOf(2))
		ok(t, b.p.X.Set(root, 0, api.Entry{Kind: api.EntryData, Granule: g}))
		b.adopts(m)
		return b
	}
	for _, m := range []mode{modes()[0], modes()[2]} {
		for _, g := range []int{spare, spare + 1, spare + 2, dst + 1, other, many, 4095} {
			b := spoilt(m, g)
			if x, e := b.p.Page(rd, 0); (e == api.OK) != (g < many) || e != api.OK && x != (api.Granule{}) {
				t.Error("Page", g, x, e)
			}
			refuses(b, b.export(rd, 0, mine-1), api.ErrOwner)
			says(b, b.export(rd, 0, dst), 1)
			b.isAt(rd, 0, api.Entry{Kind: 4})
			b = spoilt(m, g)
			says(b, b.destroy(rd, 0), g)
			b.isAt(rd, 0, api.Entry{Kind: 3})
		}
	}
	b := fresh(t, modes()[2])
	ok(t, b.p.X.Set(root, 0, api.Entry{Kind: api.EntryShared, Granule: dst}))
	b.adopts(b.a.mode)
	c := call{rd, 0, spare, dst, 1}
	for name, e := range answers(t, b.p, c) {
		if e != api.ErrState && name != "Reclaim" {
			t.Error(name, "of a shared one", e)
		}
	}
	b.asIs("shared")
}

// fault is something that is wrong, with the error that is told of it, and what mends it.
type fault struct {
	e    api.Errno
	mend func()
}

// inOrder says that a call tells its faults in their order, as one is mended behind the other; then it is done.
func inOrder(b *bench, name string, do func() api.Errno, l []fault) {
	b.t.Helper()
	for i, f := range l {
		if e := do(); e != f.e {
			b.t.Fatal(name, "the fault", i, e, "not", f.e)
		}
		f.mend()
	}
	b.right(do())
}

// Several faults at once: the first of them is told.
func TestOrderOfErrors(t *testing.T) {
	for _, m := range []mode{modes()[0], modes()[2]} {
		// What is wrong first: all of it.
		begin := func() (*bench, *call, []fault) {
			b := fresh(t, m)
			b.lays(rd, 0, spare, bytesOf(1))
			b.takes(rd, 0, dst)
			b.lays(rd, 1, spare, bytesOf(2))
			b.lays(rd, 2, spare+1, bytesOf(2))
			says(b, b.destroy(rd, 2), spare+1)
			says(b, b.reclaim(rd, 2), true)
			b.hold(spare + 1)
			b.turnNode(rd, 3, 0)
			c := &call{7, 128, -1, -1, last + 1}
			return b, c, []fault{{api.ErrNone, func() { c.at = rd }}, {api.ErrArg, func() { c.page = 9 }}}
		}
		// The free granule, and the host's.
		free := func(b *bench, c *call) []fault {
			return []fault{
				{api.ErrArg, func() { c.g = dst }},
				{api.ErrState, func() { c.g = spare + 1 }},
				{api.ErrUse, func() { b.let(spare + 1) }},
			}
		}
		toPage := func(c *call, wrong, right int) []fault {
			return []fault{{api.ErrTable, func() { c.page = wrong }}, {api.ErrState, func() { c.page = right }}}
		}

		b, c, l := begin()
		l = append(append(l, toPage(c, 1, 3)...), free(b, c)...)
		inOrder(b, "Place", func() api.Errno { return b.place(c.at, c.page, c.g, bytesOf(1)) }, l)

		b, c, l = begin()
		l = append(append(l, toPage(c, 0, 2)...), free(b, c)...)
		inOrder(b, "Zero", func() api.Errno { return b.zero(c.at, c.page, c.g) }, l)

		b, c, l = begin()
		b.hold(spare)
		b.counts(rd, last)
		l = append(l, toPage(c, 0, 1)...)
		l = append(l, fault{api.ErrOwner, func() { c.host = mine - 1 }}, fault{api.ErrOwner, func() { c.host = dst }},
			fault{api.ErrLimit, func() { b.counts(rd, last-1) }}, fault{api.ErrFresh, func() { b.turnNode(rd, 3, 0) }})
		inOrder(b, "Export", func() api.Errno { return b.export(c.at, c.page, c.host).e }, l)

		b, c, l = begin()
		l = append(append(l, toPage(c, 1, 0)...), free(b, c)...)
		l = append(l, fault{api.ErrOwner, func() { c.host = spare }}, fault{api.ErrOwner, func() { c.host = dst }},
			fault{api.ErrFresh, func() { c.counter = 2 }}, fault{api.ErrFresh, func() { c.counter = 1 }}, fault{api.ErrFresh, func() { b.turnNode(rd, 3, 0) }})
		inOrder(b, "Import", func() api.Errno { return b.bringIn(c.at, c.page, c.g, c.host, c.counter) }, l)

		b, c, l = begin()
		l = append(append(l, toPage(c, 2, 0)...), fault{api.ErrFresh, func() { b.turnNode(rd, 3, 0) }})
		inOrder(b, "Destroy", func() api.Errno { return b.destroy(c.at, c.page).e }, l)

		b, c, l = begin()
		inOrder(b, "Page", func() api.Errno { return b.page(c.at, c.page).e }, append(l, toPage(c, 0, 1)...))

		b, c, l = begin()
		inOrder(b, "Reclaim", func() api.Errno { return b.reclaim(c.at, c.page).e }, l)
	}
}

// The realm's state is told ahead of a granule that there is not, of a page that is of the right kind.
func TestStateAheadOfGranules(t *testing.T) {
	each(t, 2, func(b *bench, s api.RState, k api.EntryKind) {
		place, zero, back, out := api.ErrState, api.ErrState, api.ErrState, api.ErrState
		if s == api.New && k == api.EntryEmpty {
			place = api.ErrArg
		}
		if s != api.Dead && k == api.EntryAwaiting {
			zero = api.ErrArg
		}
		if s != api.Dead && k == api.EntryExported {
			back = api.ErrArg
		}
		if s != api.Dead && k == api.EntryData {
			out = api.ErrOwner
		}
		b.wrong(b.place(rd, 2, many, bytesOf(1)), place)
		b.wrong(b.zero(rd, 2, many), zero)
		b.wrong(b.bringIn(rd, 2, many, many, last+1), back)
		refuses(b, b.export(rd, 2, many), out)
	})
}

// What is handed in stays as it was: bytes are handed as values, and a granule that was laid goes on apart.
func TestBytesGoOnApart(t *testing.T) {
	b := fresh(t, modes()[0])
	x := bytesOf(1)
	b.lays(rd, 0, spare, x)
	x[0]++
	b.gets(rd, 0, bytesOf(1))
	g, e := b.p.Page(rd, 0)
	ok(t, e)
	g[0]++
	b.gets(rd, 0, bytesOf(1))
}
