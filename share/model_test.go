package share_test

import (
	"encoding/binary"
	"maps"
	"math/rand"
	"reflect"
	"slices"
	"testing"
	"unsafe"

	"anchorite/api"
	"anchorite/granule"
	"anchorite/machine"
	"anchorite/oracle"
	"anchorite/paging"
	"anchorite/realm"
	"anchorite/rtt"
	"anchorite/share"
)

// What lies where: granules from mine on, below hosts, are the monitor's, free from spare on; those below and behind are the host's.
const (
	size  = 128 // bytes of a granule
	pages = 256
	many  = 140 // granules of memory
	mine  = 10
	rd    = 10 // a realm's descriptor
	root  = 11
	other = 40 // another one's
	spare = 60
	hosts = 80
	most  = 2147483647 // as often as a granule may be held
)

// digest is 32 bytes that all differ, each by so many more.
func digest(by byte) api.Digest {
	var d api.Digest
	for i := range d {
		d[i] = byte(7*i+3) + by
	}
	return d
}

// bytesOf is 128 bytes that are unlike those beside them, and those of each other word, each by so many more.
func bytesOf(by byte) api.Granule {
	var g api.Granule
	for i := range g {
		g[i] = byte(11*i+i/8+5) + by
	}
	return g
}

// place is where the entry of a page lies.
type place struct{ table, slot int }

// own is a realm, and where those of its pages' entries lie whose way ends on the last level.
type own struct {
	root  int
	where map[int]place
}

// model is what there should be: memory, rows, and realms by their descriptors.
type model struct {
	memory []api.Granule
	rows   []api.Row
	realms map[int]*own
}

// entry is what a page is, as the bytes of its table tell it; Empty where no table leads to it.
func (a *model) entry(r *own, page int) api.Entry {
	at, is := r.where[page]
	if !is {
		return api.Entry{}
	}
	n := binary.LittleEndian.Uint64(a.memory[at.table][8*at.slot:])
	return api.Entry{Kind: api.EntryKind(n % 256), Granule: int(n / 256)}
}

func (a *model) set(r *own, page int, kind api.EntryKind, g int) {
	at := r.where[page]
	binary.LittleEndian.PutUint64(a.memory[at.table][8*at.slot:], uint64(kind)+256*uint64(g))
}

// of is the realm of a root.
func (a *model) of(root int) *own {
	for _, r := range a.realms {
		if r.root == root {
			return r
		}
	}
	return nil
}

// fault is what is told of a page ahead of what it is.
func (a *model) fault(at, page int) api.Errno {
	r := a.realms[at]
	if r == nil {
		return api.ErrNone
	}
	if page <= 127 || page >= 256 {
		return api.ErrArg
	}
	if _, is := r.where[page]; !is {
		return api.ErrTable
	}
	return api.OK
}

func (a *model) mapIn(at, page, g int) api.Errno {
	if e := a.fault(at, page); e != api.OK {
		return e
	}
	r := a.realms[at]
	if a.entry(r, page).Kind != 0 {
		return api.ErrState
	}
	if g < 0 || g >= many || a.rows[g].State != 0 {
		return api.ErrOwner
	}
	if a.rows[g].Held == most {
		return api.ErrLimit
	}
	a.rows[g].Held++
	a.set(r, page, 6, g)
	return api.OK
}

func (a *model) mapOut(at, page int) (int, api.Errno) {
	if e := a.fault(at, page); e != api.OK {
		return 0, e
	}
	r := a.realms[at]
	e := a.entry(r, page)
	if e.Kind != 6 {
		return 0, api.ErrState
	}
	a.rows[e.Granule].Held--
	a.set(r, page, 0, 0)
	return e.Granule, api.OK
}

// word is where a word of a realm lies; nil where there is none.
func (a *model) word(root int, addr uint64) []byte {
	r := a.of(root)
	if r == nil || addr%8 != 0 || addr >= 32768 {
		return nil
	}
	e := a.entry(r, int(addr/size))
	if e.Kind != 2 && e.Kind != 6 {
		return nil
	}
	return a.memory[e.Granule][addr%size:][:8]
}

func (a *model) load(root int, addr uint64) (uint64, bool) {
	b := a.word(root, addr)
	if b == nil {
		return 0, false
	}
	return binary.LittleEndian.Uint64(b), true
}

func (a *model) store(root int, addr, x uint64) (bool, bool) {
	b := a.word(root, addr)
	if b == nil {
		return false, false
	}
	binary.LittleEndian.PutUint64(b, x)
	return true, addr >= 16384
}

func (a *model) fetch(root int, addr uint64) (uint64, bool) {
	if addr >= 16384 {
		return 0, false
	}
	return a.load(root, addr)
}

// pair is a page, and its granule.
type pair struct{ page, granule int }

func (a *model) open(root int) []pair {
	var out []pair
	r := a.of(root)
	if r == nil {
		return nil
	}
	for page := range pages {
		if e := a.entry(r, page); e.Kind == 6 {
			out = append(out, pair{page, e.Granule})
		}
	}
	return out
}

// bench is parts beside their model: each call is done with both, and then the answers, and all that the parts have, are held against each other.
type bench struct {
	t *testing.T
	p paging.Parts
	a *model

	// What no call of this layer changes.
	asked  []api.Asked
	realms map[int]api.Realm
}

// ok says that what a test begins with was not refused.
func ok(t *testing.T, e api.Errno, what ...any) {
	t.Helper()
	if e != api.OK {
		t.Fatal(what, e)
	}
}

// fresh is a bench with two realms; ways to the last level have the pages 0 to 3, 124 to 131 and 252 to 255 of the one, 0 to 3 and 128 to 131 of the other one.
func fresh(t *testing.T) *bench {
	t.Helper()
	m, e := machine.New(many)
	ok(t, e)
	rows, e := granule.New(many)
	ok(t, e)
	o := oracle.New(true, digest(1))
	b := &bench{t: t, p: paging.Parts{O: o, M: m, T: rows, X: rtt.New(m, rows), R: realm.New(o)}}
	for g := range many {
		ok(t, m.Put(g, bytesOf(byte(3*g+1))))
	}
	for g := mine; g < hosts; g++ {
		ok(t, rows.Step(g, api.Undelegated, api.Delegated, 0))
	}
	b.makes(rd, 0, 124, 128, 252)
	b.makes(other, 0, 128)
	b.adopts()
	return b
}

// makes makes a realm, and tables to each of the pages, in the granules behind its descriptor.
func (b *bench) makes(at int, to ...int) {
	b.t.Helper()
	root := at + 1
	r, e := b.p.R.Create(at, root, api.RealmParams{Value: digest(byte(at)), Nodes: size * hosts}, digest(7))
	ok(b.t, e)
	ok(b.t, b.p.T.Step(at, api.Delegated, api.StateRD, r.Instance))
	ok(b.t, b.p.T.Step(root, api.Delegated, api.StateTable, r.Instance))
	ok(b.t, b.p.M.Scrub(root))
	free := root + 1
	for _, page := range to {
		for level := 1; level < api.Levels; level++ {
			if w, e := b.p.X.Walk(root, page); e != api.OK || w.Level >= level {
				continue
			}
			ok(b.t, b.p.X.Create(root, r.Instance, free, page, level))
			free++
		}
	}
}

// adopts has a model of what the parts have now, which goes on apart from them.
func (b *bench) adopts() {
	b.t.Helper()
	a := &model{realms: map[int]*own{}}
	for g := range many {
		bytes, e := b.p.M.Get(g)
		ok(b.t, e)
		row, e := b.p.T.Row(g)
		ok(b.t, e)
		a.memory, a.rows = append(a.memory, bytes), append(a.rows, row)
	}
	for at, r := range b.p.R.All() {
		o := &own{r.Root, map[int]place{}}
		for page := range pages {
			if w, e := b.p.X.Walk(r.Root, page); e == api.OK && w.Level == 3 {
				o.where[page] = place{w.Table, w.Slot}
			}
		}
		a.realms[at] = o
	}
	b.a, b.asked, b.realms = a, b.p.O.Log(), maps.Collect(b.p.R.All())
}

// asIs says that each byte of memory and each row are the model's, and that nothing was asked, nor done to a realm.
func (b *bench) asIs(what ...any) {
	b.t.Helper()
	for g := range many {
		bytes, e := b.p.M.Get(g)
		if row, f := b.p.T.Row(g); e != api.OK || f != api.OK || row != b.a.rows[g] || bytes != b.a.memory[g] {
			b.t.Fatalf("%v: the granule %d: %v, %x; not %v, %x", what, g, row, bytes, b.a.rows[g], b.a.memory[g])
		}
	}
	if !reflect.DeepEqual(b.p.O.Log(), b.asked) {
		b.t.Fatal(what, "asked something")
	}
	if !reflect.DeepEqual(maps.Collect(b.p.R.All()), b.realms) {
		b.t.Fatal(what, "changed a realm")
	}
}

// answer is what a call should answer, or does.
type answer[T, E comparable] struct {
	x T
	e E
}

func answered[T, E comparable](x T, e E) answer[T, E] { return answer[T, E]{x, e} }

// ends holds what a call answered against the model's, and all else.
func ends[T, E comparable](b *bench, got, want answer[T, E], what ...any) answer[T, E] {
	b.t.Helper()
	if got != want {
		b.t.Fatal(what, got.x, got.e, "not", want.x, want.e)
	}
	b.asIs(what...)
	return got
}

func (b *bench) mapIn(at, page, g int) api.Errno {
	b.t.Helper()
	return ends(b, answered(0, share.Map(b.p, at, page, g)), answered(0, b.a.mapIn(at, page, g)), "Map", at, page, g).e
}

func (b *bench) mapOut(at, page int) answer[int, api.Errno] {
	b.t.Helper()
	return ends(b, answered(share.Unmap(b.p, at, page)), answered(b.a.mapOut(at, page)), "Unmap", at, page)
}

func (b *bench) load(root int, addr uint64) answer[uint64, bool] {
	b.t.Helper()
	return ends(b, answered(share.Load(b.p, root, addr)), answered(b.a.load(root, addr)), "Load", root, addr)
}

func (b *bench) store(root int, addr, x uint64) answer[bool, bool] {
	b.t.Helper()
	return ends(b, answered(share.Store(b.p, root, addr, x)), answered(b.a.store(root, addr, x)), "Store", root, addr, x)
}

func (b *bench) fetch(root int, addr uint64) answer[uint64, bool] {
	b.t.Helper()
	return ends(b, answered(share.Fetch(b.p, root, addr)), answered(b.a.fetch(root, addr)), "Fetch", root, addr)
}

// collect is what Open goes over.
func collect(p paging.Parts, root int) []pair {
	var out []pair
	for page, g := range share.Open(p, root) {
		out = append(out, pair{page, g})
	}
	return out
}

// open holds what Open goes over against the model's.
func (b *bench) open(root int) []pair {
	b.t.Helper()
	got, want := collect(b.p, root), b.a.open(root)
	if !slices.Equal(got, want) {
		b.t.Fatal("Open", root, got, "not", want)
	}
	b.asIs("Open", root)
	return got
}

// lays lays a protected page.
func (b *bench) lays(at, page, g int, x api.Granule) {
	b.t.Helper()
	ok(b.t, b.p.Place(at, page, g, x), "Place", at, page, g)
	b.adopts()
}

// is has a page be that, whatever Map would say to it, and nothing be held for it.
func (b *bench) is(at, page int, e api.Entry) {
	b.t.Helper()
	ok(b.t, b.p.X.Set(b.a.realms[at].root, page, e), "Set", page, e)
	b.adopts()
}

// put writes a granule as the host does.
func (b *bench) put(g int, x api.Granule) {
	b.t.Helper()
	ok(b.t, b.p.M.Put(g, x), "Put", g)
	b.a.memory[g] = x
}

// holds has a granule be held so often: to come to it call by call takes too long.
func (b *bench) holds(g, n int) {
	b.t.Helper()
	field := reflect.ValueOf(b.p.T).Elem().FieldByName("rows")
	rows := *(*[]api.Row)(unsafe.Pointer(field.UnsafeAddr()))
	rows[g].Held, b.a.rows[g].Held = n, n
	b.asIs("holds")
}

// step has a granule take a step, or not: as it should be.
func (b *bench) step(g int, from, to api.GState, want api.Errno) {
	b.t.Helper()
	if e := b.p.T.Step(g, from, to, 0); e != want {
		b.t.Fatal("Step", g, from, to, e, "not", want)
	}
	if want == api.OK {
		b.a.rows[g].State = to
	}
	b.asIs("Step", g, from, to)
}

// right says that a call was not refused.
func (b *bench) right(e api.Errno) {
	b.t.Helper()
	if e != api.OK {
		b.t.Fatal("refused", e)
	}
}

// wrong says that it was, so.
func (b *bench) wrong(e, want api.Errno) {
	b.t.Helper()
	if e != want {
		b.t.Fatal(e, "not", want)
	}
}

// says says what a call answered.
func says[T, E comparable](b *bench, got answer[T, E], x T, e E) {
	b.t.Helper()
	if got.x != x || got.e != e {
		b.t.Fatal(got.x, got.e, "not", x, e)
	}
}

// goes says what Open goes over.
func (b *bench) goes(root int, want ...pair) {
	b.t.Helper()
	if got := b.open(root); !slices.Equal(got, want) {
		b.t.Fatal("Open", root, got, "not", want)
	}
}

// one is one of a list, drawn.
func one[T any](r *rand.Rand, l ...T) T { return l[r.Intn(len(l))] }

// address is an address that is drawn: of a page that is something mostly.
func address(r *rand.Rand) uint64 {
	if r.Intn(10) == 0 {
		return one(r, 4, 16385, 32767, 32768, 32776, 32768+16384, 1<<63, 1<<64-8, 1<<64-1, 1<<32+16384, uint64(r.Intn(32768)))
	}
	return uint64(size*one(r, 0, 1, 2, 3, 125, 127, 128, 128, 129, 130, 131, 252, 254, 255) + 8*r.Intn(16))
}

// any does a call that is drawn, its arguments too: few mostly, so that they meet.
func (b *bench) any(r *rand.Rand) {
	b.t.Helper()
	at, from := one(r, rd, rd, rd, other, 7), one(r, root, root, root, other+1, other+2, spare, -1)
	if b.a.of(from) == nil && b.a.rows[max(from, 0)].State == api.StateTable {
		from = root
	}
	page, g := one(r, 128, 129, 130, 131, 252, 253, 254, 255, 127, 132, 256, -1), one(r, 0, 1, 9, hosts, hosts+1, many-1, spare, rd, root, -1, many)
	switch r.Intn(9) {
	case 0, 1:
		b.mapIn(at, page, g)
	case 2:
		b.mapOut(at, page)
	case 3:
		b.load(from, address(r))
	case 4, 5:
		b.store(from, address(r), r.Uint64())
	case 6:
		b.fetch(from, address(r))
	case 7:
		b.open(from)
	default:
		b.delegates(one(r, 0, 1, 9, hosts, hosts+1, many-1), r.Intn(2) == 0)
	}
}

// delegates has a granule go from the host, if nothing holds it, or back; or the host write it, where it is still there.
func (b *bench) delegates(g int, writes bool) {
	b.t.Helper()
	switch row := b.a.rows[g]; {
	case row.State == api.Delegated:
		b.step(g, api.Delegated, api.Undelegated, api.OK)
	case writes:
		b.put(g, bytesOf(byte(g)))
	case row.Held > 0:
		b.step(g, api.Undelegated, api.Delegated, api.ErrUse)
	default:
		b.step(g, api.Undelegated, api.Delegated, api.OK)
	}
}

// P20.1 to P20.4, P0.1, P0.8: calls that are drawn, each held against the model. No granule that a page has is the monitor's.
func TestAnyCalls(t *testing.T) {
	for seed := range int64(6) {
		r, b := rand.New(rand.NewSource(seed)), fresh(t)
		b.lays(rd, 0, spare, bytesOf(1))
		b.lays(rd, 127, spare+1, bytesOf(2))
		b.lays(other, 3, spare+2, bytesOf(3))
		b.is(rd, 2, api.Entry{Kind: api.EntryDestroyed})
		b.is(rd, 3, api.Entry{Kind: api.EntryExported})
		b.is(rd, 253, api.Entry{Kind: api.EntryDestroyed})
		for range 1200 {
			b.any(r)
			for _, from := range []int{root, other + 1} {
				for _, x := range b.a.open(from) {
					if !b.p.T.Host(x.granule) {
						t.Fatal("a page has what is not the host's", x)
					}
				}
			}
		}
	}
}
