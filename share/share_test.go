package share_test

import (
	"encoding/binary"
	"slices"
	"testing"

	"anchorite/api"
	"anchorite/granule"
	"anchorite/machine"
	"anchorite/paging"
	"anchorite/rtt"
	"anchorite/share"
)

// openPages are open ones to which tables lead: the first and the last of all among them.
func openPages() []int { return []int{128, 129, 130, 131, 252, 253, 254, 255} }

// granules are the host's: the first and the last one among them.
func granules() []int { return []int{0, 1, mine - 1, hosts, hosts + 1, many - 2, many - 1} }

// shared is an entry of an open page.
func shared(g int) api.Entry { return api.Entry{Kind: api.EntryShared, Granule: g} }

// isAt says what a page of the realm is.
func (b *bench) isAt(page int, want api.Entry) {
	b.t.Helper()
	w, e := b.p.X.Walk(root, page)
	if e != api.OK || w.Level != 3 || w.Entry != want {
		b.t.Fatal("the page", page, w, e, "not", want)
	}
}

// isHeld says how often a granule is held: it is the host's.
func (b *bench) isHeld(g, want int) {
	b.t.Helper()
	if row, e := b.p.T.Row(g); e != api.OK || row != (api.Row{State: api.Undelegated, Held: want}) {
		b.t.Fatal("the granule", g, row, e, "not held", want)
	}
}

// The chapter's examples.
func TestExamples(t *testing.T) {
	b := fresh(t)
	g := 90
	b.right(b.mapIn(rd, 128, g))
	says(b, b.store(root, 16384, 7), true, true)
	if x, e := b.p.M.Word(uint64(size * g)); x != 7 || e != api.OK {
		t.Error("the host's word", x, e)
	}
	b.wrong(b.mapIn(rd, 5, g), api.ErrArg)
	says(b, b.fetch(root, 16384), 0, false)
}

// P20.1

func TestMap(t *testing.T) {
	for _, page := range openPages() {
		for _, g := range granules() {
			b := fresh(t)
			says(b, b.load(root, uint64(size*page)), 0, false)
			b.right(b.mapIn(rd, page, g))
			b.isAt(page, shared(g))
			b.isHeld(g, 1)
			b.goes(root, pair{page, g})
			b.goes(other + 1)
			// It is not empty any more, whichever granule it should have.
			for _, h := range []int{g, 2, spare, -1} {
				b.wrong(b.mapIn(rd, page, h), api.ErrState)
			}
			says(b, b.mapOut(rd, page), g, api.OK)
			b.isAt(page, api.Entry{})
			b.isHeld(g, 0)
			b.goes(root)
			says(b, b.mapOut(rd, page), 0, api.ErrState)
			// And again.
			b.right(b.mapIn(rd, page, 2))
			b.isAt(page, shared(2))
		}
	}
}

// What the host wrote stays as it is when it is mapped, and when it is not any more.
func TestBytesStay(t *testing.T) {
	b := fresh(t)
	b.put(hosts, bytesOf(77))
	b.right(b.mapIn(rd, 128, hosts))
	says(b, b.store(root, 16384+8, 5), true, true)
	says(b, b.mapOut(rd, 128), hosts, api.OK)
	want := bytesOf(77)
	copy(want[8:], []byte{5, 0, 0, 0, 0, 0, 0, 0})
	if got, e := b.p.M.Get(hosts); got != want || e != api.OK {
		t.Error(got, e)
	}
}

// All pages that there are, with a granule each: none disturbs another one.
func TestMapAll(t *testing.T) {
	b := fresh(t)
	var want []pair
	for i, page := range []int{255, 128, 131, 254, 130, 129, 252, 253} {
		b.right(b.mapIn(rd, page, hosts+i))
		want = append(want, pair{page, hosts + i})
	}
	slices.SortFunc(want, func(x, y pair) int { return x.page - y.page })
	b.goes(root, want...)
	for i, page := range []int{255, 128, 131, 254} {
		says(b, b.mapOut(rd, page), hosts+i, api.OK)
	}
	b.goes(root, pair{129, hosts + 5}, pair{130, hosts + 4}, pair{252, hosts + 6}, pair{253, hosts + 7})
}

// One granule may be several pages, of one realm and of two: it is held once for each.
func TestOneGranule(t *testing.T) {
	b := fresh(t)
	const g = many - 1
	b.right(b.mapIn(rd, 129, g))
	b.right(b.mapIn(rd, 255, g))
	b.right(b.mapIn(other, 128, g))
	b.isHeld(g, 3)
	b.goes(root, pair{129, g}, pair{255, g})
	b.goes(other+1, pair{128, g})
	says(b, b.store(other+1, 16384+16, 9), true, true)
	for _, addr := range []uint64{129*size + 16, 255*size + 16} {
		says(b, b.load(root, addr), 9, true)
	}
	says(b, b.store(root, 255*size+16, 1<<63), true, true)
	says(b, b.load(other+1, 16384+16), 1<<63, true)
	says(b, b.load(root, 129*size+16), 1<<63, true)
	for held, out := range []func() answer[int, api.Errno]{
		func() answer[int, api.Errno] { return b.mapOut(rd, 129) },
		func() answer[int, api.Errno] { return b.mapOut(other, 128) },
		func() answer[int, api.Errno] { return b.mapOut(rd, 255) },
	} {
		b.step(g, api.Undelegated, api.Delegated, api.ErrUse)
		says(b, out(), g, api.OK)
		b.isHeld(g, 2-held)
	}
	b.step(g, api.Undelegated, api.Delegated, api.OK)
}

// What holds a granule already is no matter; what holds it still, behind the last Unmap, stays.
func TestHeldByOthers(t *testing.T) {
	b := fresh(t)
	b.holds(hosts, 5)
	b.right(b.mapIn(rd, 128, hosts))
	b.isHeld(hosts, 6)
	says(b, b.mapOut(rd, 128), hosts, api.OK)
	b.isHeld(hosts, 5)
}

// A granule is held as often as it may be: then it is no other page.
func TestHeldTheMost(t *testing.T) {
	b := fresh(t)
	b.holds(hosts, most-2)
	b.right(b.mapIn(rd, 128, hosts))
	b.right(b.mapIn(other, 128, hosts))
	b.isHeld(hosts, most)
	for range 2 {
		b.wrong(b.mapIn(rd, 129, hosts), api.ErrLimit)
		b.wrong(b.mapIn(other, 131, hosts), api.ErrLimit)
	}
	b.isAt(129, api.Entry{})
	b.right(b.mapIn(rd, 129, hosts+1))
	says(b, b.mapOut(other, 128), hosts, api.OK)
	b.right(b.mapIn(rd, 130, hosts))
	b.wrong(b.mapIn(rd, 131, hosts), api.ErrLimit)
}

// In each state of a realm's life: nothing is said of it.
func TestStatesOfRealms(t *testing.T) {
	b := fresh(t)
	for i, becomes := range []func(int) api.Errno{b.p.R.Activate, b.p.R.Kill} {
		b.right(b.mapIn(rd, 128+i, hosts))
		ok(t, becomes(rd))
		b.adopts()
		b.right(b.mapIn(rd, 252+i, hosts))
		says(b, b.mapOut(rd, 128+i), hosts, api.OK)
		says(b, b.store(root, uint64(size*(252+i)), 3), true, true)
	}
	says(b, b.mapOut(rd, 253), hosts, api.OK)
}

// P20.2

// Each word of a page is its own, and the granule's there: of protected ones and of open ones, the first, the last, and those beside what parts them.
func TestWords(t *testing.T) {
	b := fresh(t)
	at := map[int]int{0: spare, 127: spare + 1, 128: 0, 255: many - 1}
	b.lays(rd, 0, at[0], bytesOf(1))
	b.lays(rd, 127, at[127], bytesOf(2))
	b.right(b.mapIn(rd, 128, at[128]))
	b.right(b.mapIn(rd, 255, at[255]))
	for page, g := range at {
		bytes, e := b.p.M.Get(g)
		ok(t, e)
		for i := range 16 {
			addr := uint64(size*page + 8*i)
			x := binary.LittleEndian.Uint64(bytes[8*i:])
			says(b, b.load(root, addr), x, true)
			if page < 128 {
				says(b, b.fetch(root, addr), x, true)
			} else {
				says(b, b.fetch(root, addr), 0, false)
			}
			for _, y := range []uint64{0, 1, 1<<64 - 1, 0x0807060504030201 + addr<<32} {
				says(b, b.store(root, addr, y), true, page >= 128)
				says(b, b.load(root, addr), y, true)
			}
		}
	}
	if x, e := b.p.M.Read(8, 8); e != api.OK || x[0] != 1+0 || x[7] != 8 {
		t.Error("the lowest byte first", x, e)
	}
}

// The addresses that the issue and the chapter name: on both sides of where something begins or ends.
func TestEdges(t *testing.T) {
	b := fresh(t)
	b.lays(rd, 0, spare, bytesOf(1))
	b.lays(rd, 127, spare+1, bytesOf(2))
	b.right(b.mapIn(rd, 128, 0))
	b.right(b.mapIn(rd, 255, many-1))
	for _, c := range []struct {
		addr     uint64
		is, open bool
	}{
		{0, true, false}, {8, true, false}, {120, true, false}, {128, false, false},
		{127 * 128, true, false}, {16376, true, false}, {16384, true, true}, {16392, true, true}, {16504, true, true}, {16512, false, false},
		{32632, false, false}, {32640, true, true}, {32760, true, true}, {32768, false, false}, {32776, false, false}, {49152, false, false}, {65536, false, false},
		{1 << 31, false, false}, {1 << 32, false, false}, {1<<32 + 8, false, false}, {1 << 39, false, false}, {1<<39 + 16384, false, false}, {1 << 40, false, false},
		{1 << 63, false, false}, {1<<63 + 16384, false, false}, {1<<64 - 8, false, false}, {1<<64 - 128, false, false}, {1<<64 - 16384, false, false}, {1<<64 - 32768, false, false},
	} {
		says(b, b.store(root, c.addr, 7), c.is, c.open)
		if got := b.load(root, c.addr); got.e != c.is || c.is != (got.x == 7) {
			t.Error("Load", c, got)
		}
		if got := b.fetch(root, c.addr); got.e != (c.is && !c.open) {
			t.Error("Fetch", c, got)
		}
		// An address that is no multiple of 8 is none, whatever stands beside it.
		for i := range uint64(7) {
			says(b, b.store(root, c.addr+1+i, 7), false, false)
			says(b, b.load(root, c.addr+1+i), 0, false)
			says(b, b.fetch(root, c.addr+1+i), 0, false)
		}
	}
}

// Each kind of page, protected and open: which have words.
func TestKinds(t *testing.T) {
	for _, page := range []int{0, 3, 127, 128, 255} {
		for kind := api.EntryEmpty; kind <= api.EntryShared; kind++ {
			for _, g := range []int{0, spare, hosts, many - 1} {
				e := api.Entry{Kind: kind}
				has := kind == api.EntryData || kind == api.EntryShared
				if has {
					e.Granule = g
				}
				if kind == api.EntryTable {
					continue
				}
				b := fresh(t)
				b.is(rd, page, e)
				addr := uint64(size*page + 24)
				bytes := bytesOf(byte(3*g + 1))
				x := binary.LittleEndian.Uint64(bytes[24:])
				if !has {
					x = 0
				}
				says(b, b.load(root, addr), x, has)
				if page < 128 {
					says(b, b.fetch(root, addr), x, has)
				} else {
					says(b, b.fetch(root, addr), 0, false)
				}
				says(b, b.store(root, addr, 9), has, has && page >= 128)
				if kind == api.EntryShared {
					b.goes(root, pair{page, g})
				} else {
					b.goes(root)
				}
			}
		}
	}
}

// A page that has a granule that there is not has no words.
func TestNoSuchGranule(t *testing.T) {
	for _, page := range []int{0, 128} {
		for _, kind := range []api.EntryKind{api.EntryData, api.EntryShared} {
			for _, g := range []int{many, many + 1, 4095} {
				b := fresh(t)
				ok(t, b.p.X.Set(root, page, api.Entry{Kind: kind, Granule: g}))
				was, rows := b.p.M.Copy(), b.p.T.Copy()
				if x, is := share.Load(b.p, root, uint64(size*page)); x != 0 || is {
					t.Error("Load", page, kind, g, x, is)
				}
				if x, is := share.Fetch(b.p, root, uint64(size*page)); x != 0 || is {
					t.Error("Fetch", page, kind, g, x, is)
				}
				if is, open := share.Store(b.p, root, uint64(size*page), 5); is || open {
					t.Error("Store", page, kind, g, is, open)
				}
				if !was.Same(b.p.M) || !rows.Same(b.p.T) {
					t.Error("changed something", page, kind, g)
				}
			}
		}
	}
}

// A page is what its way says now: taken out, destroyed, wanted again, laid.
func TestPagesThatGo(t *testing.T) {
	b := fresh(t)
	b.lays(rd, 0, spare, bytesOf(1))
	addr := uint64(8)
	bytes := bytesOf(1)
	says(b, b.fetch(root, addr), binary.LittleEndian.Uint64(bytes[8:]), true)
	_, e := b.p.Destroy(rd, 0)
	ok(t, e)
	b.adopts()
	says(b, b.fetch(root, addr), 0, false)
	says(b, b.store(root, addr, 1), false, false)
	_, e = b.p.Reclaim(rd, 0)
	ok(t, e)
	b.adopts()
	says(b, b.load(root, addr), 0, false)
	ok(t, b.p.Zero(rd, 0, spare+1))
	b.adopts()
	says(b, b.load(root, addr), 0, true)
	says(b, b.store(root, addr, 7), true, false)
	if x, e := b.p.Page(rd, 0); e != api.OK || x != (api.Granule{8: 7}) {
		t.Error(x, e)
	}
}

// P20.3

// Open tells what was so when it was called, whatever is mapped while one ranges, as often as one ranges.
func TestOpenAsItIs(t *testing.T) {
	b := fresh(t)
	b.right(b.mapIn(rd, 129, hosts))
	b.right(b.mapIn(rd, 131, hosts+1))
	b.right(b.mapIn(rd, 255, hosts))
	l := share.Open(b.p, root)
	want := []pair{{129, hosts}, {131, hosts + 1}, {255, hosts}}
	for round := range 3 {
		var got []pair
		for page, g := range l {
			got = append(got, pair{page, g})
			if round == 0 {
				b.mapOut(rd, 131)
				b.mapOut(rd, 255)
				b.mapIn(rd, 131, 0)
				b.mapIn(rd, 128, 1)
				b.mapIn(rd, 254, 1)
			}
		}
		if !slices.Equal(got, want) {
			t.Error(round, got)
		}
	}
	b.goes(root, pair{128, 1}, pair{129, hosts}, pair{131, 0}, pair{254, 1})
}

// It is left at any time.
func TestOpenIsLeft(t *testing.T) {
	b := fresh(t)
	for i, page := range openPages() {
		b.right(b.mapIn(rd, page, hosts+i))
	}
	l := share.Open(b.p, root)
	for n := range 9 {
		var got []int
		for page := range l {
			if len(got) == n {
				break
			}
			got = append(got, page)
		}
		if !slices.Equal(got, openPages()[:n]) {
			t.Error(n, got)
		}
	}
	n := 0
	l(func(int, int) bool { n++; return n < 3 })
	if n != 3 {
		t.Error("went on", n)
	}
	b.asIs("left")
}

// Pages of other kinds are not gone over, nor those to which no table leads.
func TestOpenOfOthers(t *testing.T) {
	b := fresh(t)
	b.goes(root)
	b.lays(rd, 0, spare, bytesOf(1))
	b.is(rd, 252, api.Entry{Kind: api.EntryDestroyed})
	b.is(rd, 253, api.Entry{Kind: api.EntryData, Granule: hosts})
	b.goes(root)
	b.right(b.mapIn(rd, 254, hosts))
	b.goes(root, pair{254, hosts})
}

// P20.4

// What the realm stores is what the host reads, and the other way round: words, bytes, and whole granules.
func TestBothSee(t *testing.T) {
	for _, page := range openPages() {
		b := fresh(t)
		g := hosts + page%4
		b.right(b.mapIn(rd, page, g))
		for i := range uint64(16) {
			addr, there := uint64(size*page)+8*i, uint64(size*g)+8*i
			says(b, b.store(root, addr, 1<<60+i), true, true)
			if x, e := b.p.M.Word(there); x != 1<<60+i || e != api.OK {
				t.Error("the host reads", i, x, e)
			}
			ok(t, b.p.M.SetWord(there, 1<<61+i))
			binary.LittleEndian.PutUint64(b.a.memory[g][8*i:], 1<<61+i)
			says(b, b.load(root, addr), 1<<61+i, true)
		}
		b.put(g, api.Granule{8: 1, 9: 2})
		says(b, b.load(root, uint64(size*page)+8), 513, true)
		// Behind Unmap the realm sees nothing of what the host writes there, and writes nothing.
		says(b, b.mapOut(rd, page), g, api.OK)
		says(b, b.load(root, uint64(size*page)+8), 0, false)
		says(b, b.store(root, uint64(size*page)+8, 4), false, false)
	}
}

// A granule that a page has is not Delegated, until no page has it any more.
func TestDelegate(t *testing.T) {
	for _, g := range granules() {
		b := fresh(t)
		b.right(b.mapIn(rd, 128, g))
		b.right(b.mapIn(rd, 129, g))
		b.step(g, api.Undelegated, api.Delegated, api.ErrUse)
		says(b, b.mapOut(rd, 128), g, api.OK)
		b.step(g, api.Undelegated, api.Delegated, api.ErrUse)
		says(b, b.mapOut(rd, 129), g, api.OK)
		b.step(g, api.Undelegated, api.Delegated, api.OK)
		b.wrong(b.mapIn(rd, 128, g), api.ErrOwner)
		b.step(g, api.Delegated, api.Undelegated, api.OK)
		b.right(b.mapIn(rd, 128, g))
	}
}

// A table that leads to an open page that has something is not taken away.
func TestTablesStay(t *testing.T) {
	b := fresh(t)
	b.right(b.mapIn(rd, 131, hosts))
	for _, take := range []func(int, int, int) (int, api.Errno){b.p.X.Destroy, b.p.X.Fold} {
		if _, e := take(root, 128, 3); e != api.ErrUse {
			t.Error(e)
		}
	}
	b.asIs("what is refused")
	says(b, b.mapOut(rd, 131), hosts, api.OK)
	if _, e := b.p.X.Fold(root, 128, 3); e != api.OK {
		t.Error(e)
	}
	b.adopts()
	b.wrong(b.mapIn(rd, 131, hosts), api.ErrTable)
	says(b, b.load(root, 131*size), 0, false)
}

// Parts are copied: whichever copy a call is done with, it is done to the same memory, rows and tables.
func TestPartsAreCopied(t *testing.T) {
	b := fresh(t)
	c := b.p
	ok(t, share.Map(c, rd, 128, hosts))
	if e := share.Map(b.p, rd, 128, hosts+1); e != api.ErrState {
		t.Error(e)
	}
	if c != b.p {
		t.Error("parts are changed")
	}
	if got := collect(b.p, root); !slices.Equal(got, []pair{{128, hosts}}) {
		t.Error(got)
	}
}

// What goes on apart is not changed.
func TestApart(t *testing.T) {
	b := fresh(t)
	m, rows := b.p.M.Copy(), b.p.T.Copy()
	c := paging.Parts{O: b.p.O, M: m, T: rows, X: rtt.New(m, rows), R: b.p.R}
	b.right(b.mapIn(rd, 128, hosts))
	says(b, b.store(root, 16384, 5), true, true)
	if got := collect(c, root); got != nil {
		t.Error(got)
	}
	ok(t, share.Map(c, rd, 128, hosts+1))
	b.asIs("apart")
}

// Where there are more rows than granules that have bytes, or fewer, the host's are those that have both.
func TestPartsOfUnlikeSizes(t *testing.T) {
	for _, n := range []int{hosts + 1, many + 40} {
		b := fresh(t)
		m, e := machine.New(n)
		ok(t, e)
		rows, e := granule.New(n)
		ok(t, e)
		fewer := min(n, many)
		for _, p := range []paging.Parts{{O: b.p.O, M: m, T: b.p.T, X: b.p.X, R: b.p.R}, {O: b.p.O, M: b.p.M, T: rows, X: b.p.X, R: b.p.R}} {
			for _, g := range []int{fewer, fewer + 1, max(n, many) - 1, max(n, many)} {
				if e := share.Map(p, rd, 128, g); e != api.ErrOwner {
					t.Error("Map", n, g, e)
				}
			}
			b.asIs("what is refused")
			ok(t, share.Map(p, rd, 128, fewer-1))
			if g, e := share.Unmap(p, rd, 128); g != fewer-1 || e != api.OK {
				t.Error("Unmap", g, e)
			}
			b.asIs("mapped, and not any more")
		}
	}
}

// Any table may be what a way begins by: a page is what its way ends by, whichever level that is.
func TestOtherRoots(t *testing.T) {
	b := fresh(t)
	b.lays(rd, 125, spare, bytesOf(1))
	b.right(b.mapIn(rd, 129, hosts))
	w, e := b.p.X.Walk(root, 129)
	ok(t, e)
	v, e := b.p.X.Walk(root, 125)
	ok(t, e)
	// From a table of the last level on, a page's slot there is that of the level 0: the second one has the pages 64 to 127.
	of := bytesOf(1)
	for _, page := range []uint64{64, 100, 127} {
		if x, is := share.Load(b.p, v.Table, size*page); x != binary.LittleEndian.Uint64(of[:]) || !is {
			t.Error("Load", page, x, is)
		}
		if x, is := share.Fetch(b.p, w.Table, size*page); x != binary.LittleEndian.Uint64(b.a.memory[hosts][:]) || !is {
			t.Error("Fetch", page, x, is)
		}
	}
	for _, page := range []uint64{0, 63, 128, 255} {
		if x, is := share.Load(b.p, v.Table, size*page); x != 0 || is {
			t.Error("Load", page, x, is)
		}
	}
	var want []pair
	for page := 64; page < 128; page++ {
		want = append(want, pair{page, hosts})
	}
	if got := collect(b.p, w.Table); !slices.Equal(got, want) {
		t.Error("Open", got)
	}
	if got := collect(b.p, v.Table); got != nil {
		t.Error("Open", got)
	}
	b.asIs("read")
}
