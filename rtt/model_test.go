package rtt_test

import (
	"math"
	"math/rand"
	"slices"
	"testing"

	"anchorite/api"
	"anchorite/rtt"
)

// realm is what a realm's tables should be, page by page: no entry leads anywhere.
type realm struct {
	root  int
	owner uint64
	at    map[[2]int]int // the granule of each table, by its level and its first page
	is    [256]api.Entry // what each page is
}

// model is all realms' tables, and all rows.
type model struct {
	realms []*realm
	rows   []api.Row
	other  []api.Granule // the bytes of what is no table
}

func isPage(page int) bool { return page >= 0 && page < 256 }

// realm is the realm of that root.
func (m *model) realm(root int) *realm {
	for _, r := range m.realms {
		if r.root == root {
			return r
		}
	}
	return nil
}

// table is the granule of the table of that level on a page's way.
func (r *realm) table(page, level int) (int, bool) {
	g, is := r.at[[2]int{level, first(page, level)}]
	return g, is
}

// look is where a page's way is on that level, or ended.
func (r *realm) look(page, level int) api.Walk {
	for l := range level + 1 {
		g, _ := r.table(page, l)
		next, on := 0, false
		if l < 3 {
			next, on = r.table(page, l+1)
		}
		switch {
		case on && l == level:
			return api.Walk{Level: l, Table: g, Slot: slot(page, l), Entry: table(next)}
		case !on:
			return api.Walk{Level: l, Table: g, Slot: slot(page, l), Entry: r.is[page]}
		}
	}
	return api.Walk{}
}

// has is the four entries of the table of that level on a page's way.
func (r *realm) has(page, level int) []api.Entry {
	var out []api.Entry
	for i := range 4 {
		out = append(out, r.look(first(page, level)+i*many(level)/4, level).Entry)
	}
	return out
}

// fill says what all pages below the table of that level on a page's way are.
func (r *realm) fill(page, level int, e api.Entry) {
	for p := first(page, level); p < first(page, level)+many(level); p++ {
		r.is[p] = e
	}
}

func (m *model) set(root, page int, e api.Entry) api.Errno {
	r := m.realm(root)
	if r == nil || !isPage(page) || !slices.Contains(leaves(), e) {
		return api.ErrArg
	}
	if _, is := r.table(page, 3); !is {
		return api.ErrTable
	}
	r.is[page] = e
	return api.OK
}

func (m *model) create(root int, owner uint64, g, page, level int) api.Errno {
	r := m.realm(root)
	if r == nil || owner == 0 || r.owner != owner || !isPage(page) || level < 1 || level > 3 || g < 0 || g >= len(m.rows) {
		return api.ErrArg
	}
	if _, is := r.table(page, level-1); !is {
		return api.ErrTable
	}
	if _, is := r.table(page, level); is || m.rows[g].State != api.Delegated {
		return api.ErrState
	}
	if m.rows[g].Held > 0 {
		return api.ErrUse
	}
	m.rows[g] = api.Row{State: api.StateTable, Owner: owner}
	r.at[[2]int{level, first(page, level)}] = g
	return api.OK
}

func (m *model) take(root, page, level int, fold bool) (int, api.Errno) {
	r := m.realm(root)
	if r == nil || !isPage(page) || level < 1 || level > 3 {
		return 0, api.ErrArg
	}
	g, is := r.table(page, level)
	if !is {
		return 0, api.ErrTable
	}
	l, left := r.has(page, level), destroyed
	for _, e := range l {
		if e != empty && e != destroyed {
			return 0, api.ErrUse
		}
	}
	if m.rows[g].Held > 0 {
		return 0, api.ErrUse
	}
	if fold {
		if left = l[0]; l[1] != left || l[2] != left || l[3] != left {
			return 0, api.ErrState
		}
	}
	r.fill(page, level, left)
	delete(r.at, [2]int{level, first(page, level)})
	m.rows[g], m.other[g] = api.Row{State: api.Delegated}, api.Granule{}
	return g, api.OK
}

// bytes is what all granules should have.
func (m *model) bytes() []api.Granule {
	out := slices.Clone(m.other)
	for _, r := range m.realms {
		for k, g := range r.at {
			out[g] = bytesOf(r.has(k[1], k[0])...)
		}
	}
	return out
}

// leaves are the pages that are something on the level 3.
func (r *realm) leaves() []item {
	var out []item
	for page, e := range r.is {
		if _, is := r.table(page, 3); is && e != empty {
			out = append(out, item{page, e})
		}
	}
	return out
}

// mustBe says of b that all of it is as the model says.
func (m *model) mustBe(b *bench, what ...any) {
	b.t.Helper()
	blank := map[int]bool{}
	for g, want := range m.bytes() {
		if got := b.get(g); got != want {
			b.t.Fatal("other bytes", g, got, "not", want, what)
		}
		if got := b.row(g); got != m.rows[g] {
			b.t.Fatal("another row", g, got, "not", m.rows[g], what)
		}
		blank[g] = m.rows[g].State == api.StateTable && want == api.Granule{}
	}
	for g, want := range blank {
		if b.x.Blank(g) != want {
			b.t.Fatal("Blank", g, !want, what)
		}
	}
	for _, r := range m.realms {
		if l := b.leaves(r.root); !slices.Equal(l, r.leaves()) {
			b.t.Fatal("Leaves", r.root, l, what)
		}
	}
}

// twoRealms are two realms' roots in n granules, and what they should be.
func twoRealms(t *testing.T, n int) (*bench, *model) {
	b := fresh(t, n)
	must(t, b.rows.Step(n-1, api.Delegated, api.StateTable, 9))
	b.put(n-1, api.Granule{})
	m := &model{}
	for g := range n {
		m.rows = append(m.rows, b.row(g))
		m.other = append(m.other, b.get(g))
	}
	m.realms = []*realm{
		{root: root, owner: owner, at: map[[2]int]int{{0, 0}: root}},
		{root: n - 1, owner: 9, at: map[[2]int]int{{0, 0}: n - 1}},
	}
	return b, m
}

// some is mostly one of the first, now and then one of the others.
func some[T any](r *rand.Rand, right, wrong []T) T {
	if r.Intn(40) == 0 {
		return wrong[r.Intn(len(wrong))]
	}
	return right[r.Intn(len(right))]
}

// draws are arguments at random, mostly such as are not refused at once.
func (m *model) draws(r *rand.Rand, pages []int) call {
	n := len(m.rows)
	one := m.realms[r.Intn(len(m.realms))]
	free := []int{root}
	for g, row := range m.rows {
		if row.State == api.Delegated {
			free = append(free, g)
		}
	}
	return call{
		root:  some(r, []int{one.root}, []int{0, 2, -1, n, math.MinInt, math.MaxInt, m.realms[0].root, m.realms[1].root}),
		owner: some(r, []uint64{one.owner}, []uint64{0, 1, 7, 9, math.MaxUint64}),
		table: some(r, free, []int{0, 1, 2, root, -1, n - 1, n, math.MaxInt}),
		page:  some(r, pages, wrongPages()),
		level: some(r, []int{1, 2, 3}, append(wrongLevels(), 0)),
		e:     some(r, append(leaves(), empty, destroyed, empty, destroyed, empty, destroyed, empty, destroyed), noLeaves()),
	}
}

// P0.8 and P9.6: whatever is done, with whatever arguments, memory and rows are what they should be.
func TestAnyCalls(t *testing.T) {
	for seed := range int64(12) {
		r := rand.New(rand.NewSource(seed))
		b, m := twoRealms(t, 24)
		// Few pages, so that ways meet; of some seeds any.
		pages := []int{0, 1, 2, 3, 4, 17, 127, 128, 192, 255}
		if seed%3 == 2 {
			pages = nil
			for page := range 256 {
				pages = append(pages, page)
			}
		}
		done := map[string]int{}
		for i := range 3000 {
			c := m.draws(r, pages)
			name, e := m.one(b, r.Intn(8), c, r)
			if e == api.OK {
				done[name]++
			}
			if i%10 == 0 {
				m.mustBe(b, seed, i, name, c, e)
			}
		}
		for _, name := range []string{"Set", "Create", "Destroy", "Fold", "Walk", "Look"} {
			if done[name] < 5 {
				t.Error("not tried:", seed, name, done[name])
			}
		}
	}
}

// one does one call to b and to the model, and says that both answer alike.
func (m *model) one(b *bench, which int, c call, r *rand.Rand) (string, api.Errno) {
	b.t.Helper()
	name, got, want, g, w := "", api.OK, api.OK, 0, 0
	switch which {
	case 0, 1:
		name = "Set"
		got, want = b.x.Set(c.root, c.page, c.e), m.set(c.root, c.page, c.e)
	case 2, 3:
		name = "Create"
		got, want = b.x.Create(c.root, c.owner, c.table, c.page, c.level), m.create(c.root, c.owner, c.table, c.page, c.level)
	case 4:
		name = "Destroy"
		g, got = b.x.Destroy(c.root, c.page, c.level)
		w, want = m.take(c.root, c.page, c.level, false)
	case 5:
		name = "Fold"
		g, got = b.x.Fold(c.root, c.page, c.level)
		w, want = m.take(c.root, c.page, c.level, true)
	case 6:
		return m.oneLook(b, c, r)
	default:
		return m.oneHold(b, c, r)
	}
	if got != want || g != w {
		b.t.Fatal(name, c, g, got, "not", w, want)
	}
	return name, got
}

// oneLook is one of Walk, or Look.
func (m *model) oneLook(b *bench, c call, r *rand.Rand) (string, api.Errno) {
	b.t.Helper()
	name, level := "Walk", 3
	w, e := b.x.Walk(c.root, c.page)
	if r.Intn(2) == 0 {
		name, level = "Look", some(r, []int{0, 1, 2, 3}, wrongLevels())
		w, e = b.x.Look(c.root, c.page, level)
	}
	one := m.realm(c.root)
	if one == nil || !isPage(c.page) || level < 0 || level > 3 {
		if e != api.ErrArg || w != (api.Walk{}) {
			b.t.Fatal(name, c, level, w, e)
		}
		return name, e
	}
	if want := one.look(c.page, level); e != api.OK || w != want {
		b.t.Fatal(name, c, level, w, e, "not", want)
	}
	return name, e
}

// oneHold holds a granule, or lets it go.
func (m *model) oneHold(b *bench, c call, r *rand.Rand) (string, api.Errno) {
	b.t.Helper()
	g := r.Intn(len(m.rows))
	if m.rows[g].Held > 0 {
		m.rows[g].Held--
		must(b.t, b.rows.Let(g))
		return "Let", api.OK
	}
	if r.Intn(3) == 0 {
		m.rows[g].Held++
		must(b.t, b.rows.Hold(g))
	}
	return "Hold", api.OK
}

// Two calls with the same arguments, over the same bytes and rows, answer alike.
func TestNothingElseIsKept(t *testing.T) {
	b := fresh(t, 12)
	b.down(27, 3)
	b.set(27, data(9))
	m, rows := b.m.Copy(), b.rows.Copy()
	x := rtt.New(m, rows)
	b.set(27, destroyed)
	if w, e := x.Walk(root, 27); e != api.OK || w.Entry != data(9) {
		t.Error("not its own", w, e)
	}
	must(t, x.Set(root, 27, destroyed))
	if !m.Same(b.m) || !rows.Same(b.rows) {
		t.Error("the same calls, and not the same bytes")
	}
}
