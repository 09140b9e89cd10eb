package paging_test

import (
	"bytes"
	"crypto/aes"
	"crypto/cipher"
	"crypto/sha256"
	"encoding/binary"
	"maps"
	"math/rand"
	"reflect"
	"slices"
	"testing"

	"anchorite/api"
	"anchorite/granule"
	"anchorite/machine"
	"anchorite/oracle"
	"anchorite/paging"
	"anchorite/realm"
	"anchorite/rtt"
	"anchorite/tree"
)

// What lies where: granules below mine are the monitor's, free from spare on; the others are the host's, free from dst on.
const (
	size       = 128     // bytes of a granule
	last       = 1 << 32 // the greatest counter
	many       = 240     // granules of memory
	rd         = 3       // a realm's descriptor
	root       = 4
	other      = 30 // another one's
	spare      = 45
	mine       = 80
	dst        = 82
	nodes      = 100 // the granule from which on the realm's nodes lie
	otherNodes = 168 // and the other one's
)

// digest is 32 bytes that all differ, each by so many more.
func digest(by byte) api.Digest {
	var d api.Digest
	for i := range d {
		d[i] = byte(7*i+3) + by
	}
	return d
}

// bytesOf is 128 bytes that are unlike those beside them, and those of each other block, each by so many more.
func bytesOf(by byte) api.Granule {
	var g api.Granule
	for i := range g {
		g[i] = byte(11*i+i/32+5) + by
	}
	return g
}

// filled is a granule of that byte.
func filled(x byte) api.Granule { return api.Granule(slices.Repeat([]byte{x}, size)) }

// plains are noughts, bytes 255, such with one bit at an end, and some of all bytes.
func plains() []api.Granule {
	return []api.Granule{{}, filled(255), {0: 1}, {127: 128}, bytesOf(0), bytesOf(99)}
}

// mode is how an oracle answers, and of what.
type mode struct {
	name  string
	ideal bool
	draws []api.Digest
}

// drawn is n draws of which no two are alike.
func drawn(n int) []api.Digest {
	out := make([]api.Digest, n)
	for i := range out {
		out[i] = digest(byte(i))
		binary.BigEndian.PutUint32(out[i][20:], uint32(i))
	}
	return out
}

// modes are both, the ideal one with none but the draws behind a list's end, with draws that end within the first export's stream, ahead of its leaf, within its way, and later, and with such as are alike. (What a bench begins with asks 259 questions.)
func modes() []mode {
	return []mode{
		{"concrete", false, nil},
		{"concrete, with draws", false, drawn(3)},
		{"ideal, no draws", true, nil},
		{"ideal, 262 draws", true, drawn(262)},
		{"ideal, 264 draws", true, drawn(264)},
		{"ideal, 268 draws", true, drawn(268)},
		{"ideal, 900 draws", true, drawn(900)},
		{"ideal, 9000 draws", true, drawn(9000)},
		{"ideal, draws alike", true, slices.Repeat([]api.Digest{digest(9)}, 9000)},
		{"ideal, draws of noughts", true, make([]api.Digest, 9000)},
		{"ideal, draws alike at first", true, slices.Repeat([]api.Digest{digest(9)}, 300)},
	}
}

// distinctModes are those in which no two questions have one answer.
func distinctModes() []mode { return modes()[:8] }

// place is where the entry of a page lies.
type place struct{ table, slot int }

// own is a realm, and where those of its pages' entries lie whose way ends on the last level.
type own struct {
	realm api.Realm
	where map[int]place
}

// model is what there should be: an oracle's answers and its log, memory, rows, and realms.
type model struct {
	mode
	answers map[string]api.Digest
	log     []api.Asked
	memory  []api.Granule
	rows    []api.Row
	realms  map[int]*own
}

// number is 8 bytes of n, the lowest first.
func number(n uint64) []byte { return binary.LittleEndian.AppendUint64(nil, n) }

// textOf is a question's text, as layer 5 has it.
func textOf(q api.Question) []byte {
	out := append([]byte{byte(q.Kind)}, q.Key[:]...)
	return append(append(out, byte(q.Domain)), q.Data...)
}

// ask is the answer that a question had, or has from now on: a draw, or what was computed.
func (a *model) ask(q api.Question, computed api.Digest) api.Digest {
	text := string(textOf(q))
	if d, is := a.answers[text]; is {
		return d
	}
	d := computed
	if i := len(a.log); a.ideal && i < len(a.draws) {
		d = a.draws[i]
	} else if a.ideal {
		d = api.Digest{31: 1}
		binary.LittleEndian.PutUint64(d[:], uint64(i))
	}
	a.answers[text] = d
	a.log = append(a.log, api.Asked{Question: q, Answer: d})
	return d
}

// digest is the answer to a question for a digest.
func (a *model) digest(d api.Domain, parts ...[]byte) api.Digest {
	q := api.Question{Kind: 1, Domain: d, Data: slices.Concat(parts...)}
	return a.ask(q, sha256.Sum256(textOf(q)))
}

// stream is a page's stream: by the library, or block by block.
func (a *model) stream(key api.Digest, page int, counter uint64) []byte {
	q := api.Question{Kind: 4, Key: key, Domain: 10, Data: slices.Concat(number(uint64(page)), number(counter))}
	if !a.ideal {
		out := byLibrary(q)
		a.ask(q, api.Digest(out[:32]))
		return out
	}
	var out []byte
	for i := range uint64(4) {
		block := q
		block.Data = slices.Concat(q.Data, number(i))
		d := a.ask(block, api.Digest{})
		out = append(out, d[:]...)
	}
	return out
}

// byLibrary is the concrete stream of a question.
func byLibrary(q api.Question) []byte {
	nonce := sha256.Sum256(textOf(q))
	var first [16]byte
	copy(first[:8], nonce[:8])
	c, err := aes.NewCipher(q.Key[:16])
	if err != nil {
		panic(err)
	}
	out := make([]byte, size)
	cipher.NewCTR(c, first[:]).XORKeyStream(out, out)
	return out
}

// masked is bytes xor the page's stream.
func (a *model) masked(r *own, page int, counter uint64, g api.Granule) api.Granule {
	for i, x := range a.stream(r.realm.Key, page, counter) {
		g[i] ^= x
	}
	return g
}

func (a *model) none(page int) api.Digest { return a.digest(6, number(uint64(page))) }

func (a *model) leaf(page int, counter uint64, sealed api.Granule) api.Digest {
	return a.digest(4, number(uint64(page)), number(counter), sealed[:])
}

// node is where the realm's node i lies; nil where its nodes do not lie in memory.
func (a *model) node(r *own, i int) []byte {
	first := int(r.realm.Nodes / size)
	if r.realm.Nodes%size != 0 || r.realm.Nodes > size*many || first+64 > len(a.memory) {
		return nil
	}
	return a.memory[first+i/4][i%4*32:][:32]
}

// up is what the nodes of a page's way come to, from its leaf on, by those beside it.
func (a *model) up(r *own, page int, leaf api.Digest) []api.Digest {
	out := []api.Digest{leaf}
	for i := 128 + page; i > 1; i /= 2 {
		d := out[len(out)-1]
		if i%2 == 0 {
			out = append(out, a.digest(5, number(uint64(i/2)), d[:], a.node(r, i+1)))
		} else {
			out = append(out, a.digest(5, number(uint64(i/2)), a.node(r, i-1), d[:]))
		}
	}
	return out
}

// holds is whether the tree has that leaf.
func (a *model) holds(r *own, page int, leaf api.Digest) bool {
	return a.node(r, 2) != nil && a.up(r, page, leaf)[7] == r.realm.Tree
}

// write writes the page's leaf, and its way.
func (a *model) write(r *own, page int, leaf api.Digest) {
	l := a.up(r, page, leaf)
	for k, i := 0, 128+page; i > 1; k, i = k+1, i/2 {
		copy(a.node(r, i), l[k][:])
	}
	r.realm.Tree = l[7]
}

// entry is a page's entry as its bytes tell it.
func (a *model) entry(r *own, page int) api.Entry {
	at := r.where[page]
	n := binary.LittleEndian.Uint64(a.memory[at.table][8*at.slot:])
	return api.Entry{Kind: api.EntryKind(n % 256), Granule: int(n / 256)}
}

func (a *model) set(r *own, page int, kind api.EntryKind, g int) {
	at := r.where[page]
	binary.LittleEndian.PutUint64(a.memory[at.table][8*at.slot:], uint64(kind)+256*uint64(g))
}

// cond is something that should be so, or else that error is told.
type cond struct {
	e  api.Errno
	is func() bool
}

// first is the error of the first condition that is not so; those behind it are not asked.
func first(l []cond) api.Errno {
	for _, c := range l {
		if !c.is() {
			return c.e
		}
	}
	return api.OK
}

// ahead is what stands ahead of each call.
func (a *model) ahead(at, page int) []cond {
	return []cond{
		{api.ErrNone, func() bool { return a.realms[at] != nil }},
		{api.ErrArg, func() bool { return page >= 0 && page <= 127 }},
		{api.ErrTable, func() bool { _, is := a.realms[at].where[page]; return is }},
	}
}

func (a *model) state(at int, l ...api.RState) cond {
	return cond{api.ErrState, func() bool { return slices.Contains(l, a.realms[at].realm.State) }}
}

func (a *model) isEntry(at, page int, l ...api.EntryKind) cond {
	return cond{api.ErrState, func() bool { return slices.Contains(l, a.entry(a.realms[at], page).Kind) }}
}

// free is what is asked of a granule that a page is to have.
func (a *model) free(g int) []cond {
	return []cond{
		{api.ErrArg, func() bool { return g >= 0 && g < many }},
		{api.ErrState, func() bool { return a.rows[g].State == 1 }},
		{api.ErrUse, func() bool { return a.rows[g].Held == 0 }},
	}
}

func (a *model) host(g int) cond {
	return cond{api.ErrOwner, func() bool { return g >= 0 && g < many && a.rows[g].State == 0 }}
}

func (a *model) lay(r *own, page, g int, b api.Granule) {
	a.rows[g] = api.Row{State: 5, Owner: r.realm.Instance}
	a.memory[g] = b
	a.set(r, page, 2, g)
}

// leave takes a page's granule from it, and tells which that was: it is noughts, and Delegated, where there is a step from what it is.
func (a *model) leave(r *own, page int, left api.EntryKind) int {
	g := a.entry(r, page).Granule
	a.set(r, page, left, 0)
	if g >= many {
		return g
	}
	a.memory[g] = api.Granule{}
	if a.rows[g].State == 5 && a.rows[g].Held == 0 {
		a.rows[g] = api.Row{State: 1}
	}
	return g
}

// plain is the bytes of a page that has a granule.
func (a *model) plain(r *own, page int) api.Granule {
	if g := a.entry(r, page).Granule; g < many {
		return a.memory[g]
	}
	return api.Granule{}
}

func (a *model) place(at, page, g int, b api.Granule) api.Errno {
	l := append(a.ahead(at, page), a.state(at, 1), a.isEntry(at, page, 0))
	if e := first(append(l, a.free(g)...)); e != api.OK {
		return e
	}
	r := a.realms[at]
	a.lay(r, page, g, b)
	r.realm.Measure = a.digest(2, r.realm.Measure[:], number(uint64(page)), b[:])
	r.realm.Log = append(r.realm.Log, api.Record{Kind: 2, Page: page, Data: b})
	return api.OK
}

func (a *model) zero(at, page, g int) api.Errno {
	l := append(a.ahead(at, page), a.state(at, 1, 2), a.isEntry(at, page, 5))
	e := first(append(l, a.free(g)...))
	if e == api.OK {
		a.lay(a.realms[at], page, g, api.Granule{})
	}
	return e
}

func (a *model) export(at, page, to int) (uint64, api.Errno) {
	l := append(a.ahead(at, page), a.state(at, 1, 2), a.isEntry(at, page, 2), a.host(to),
		cond{api.ErrLimit, func() bool { return a.realms[at].realm.Counter < last }},
		cond{api.ErrFresh, func() bool { return a.holds(a.realms[at], page, a.none(page)) }})
	if e := first(l); e != api.OK {
		return 0, e
	}
	r := a.realms[at]
	r.realm.Counter++
	sealed := a.masked(r, page, r.realm.Counter, a.plain(r, page))
	a.write(r, page, a.leaf(page, r.realm.Counter, sealed))
	a.memory[to] = sealed
	a.leave(r, page, 4)
	return r.realm.Counter, api.OK
}

func (a *model) bringIn(at, page, g, src int, counter uint64) api.Errno {
	l := append(a.ahead(at, page), a.state(at, 1, 2), a.isEntry(at, page, 4))
	l = append(append(l, a.free(g)...), a.host(src),
		cond{api.ErrFresh, func() bool { return counter <= last }},
		cond{api.ErrFresh, func() bool { return a.holds(a.realms[at], page, a.leaf(page, counter, a.memory[src])) }})
	if e := first(l); e != api.OK {
		return e
	}
	r := a.realms[at]
	plain := a.masked(r, page, counter, a.memory[src])
	a.write(r, page, a.none(page))
	a.lay(r, page, g, plain)
	return api.OK
}

func (a *model) destroy(at, page int) (int, api.Errno) {
	l := append(a.ahead(at, page), a.isEntry(at, page, 2, 4),
		cond{api.ErrFresh, func() bool {
			r := a.realms[at]
			if a.entry(r, page).Kind == 2 || r.realm.State == 3 {
				return true
			}
			lies := a.node(r, 128+page)
			return lies != nil && a.holds(r, page, api.Digest(lies))
		}})
	if e := first(l); e != api.OK {
		return 0, e
	}
	r := a.realms[at]
	if a.entry(r, page).Kind == 2 {
		return a.leave(r, page, 3), api.OK
	}
	if r.realm.State != 3 {
		a.write(r, page, a.none(page))
	}
	a.set(r, page, 3, 0)
	return -1, api.OK
}

func (a *model) reclaim(at, page int) (bool, api.Errno) {
	e := first(a.ahead(at, page))
	if e == api.ErrTable {
		return false, api.OK
	}
	if e != api.OK || a.entry(a.realms[at], page).Kind != 3 {
		return false, e
	}
	a.set(a.realms[at], page, 5, 0)
	return true, api.OK
}

func (a *model) page(at, page int) (api.Granule, api.Errno) {
	if e := first(append(a.ahead(at, page), a.isEntry(at, page, 2))); e != api.OK {
		return api.Granule{}, e
	}
	return a.memory[a.entry(a.realms[at], page).Granule], api.OK
}

// bench is parts beside their model: each call is done with both, and then the answers, all that was asked, and all that the parts have, are held against each other.
type bench struct {
	t *testing.T
	p paging.Parts
	a *model
}

// ok says that what a test begins with was not refused.
func ok(t *testing.T, e api.Errno, what ...any) {
	t.Helper()
	if e != api.OK {
		t.Fatal(what, e)
	}
}

// fresh is a bench with two realms; ways to the last level have the pages 0 to 3 and 124 to 127 of each, and 64 to 67 of the first one.
func fresh(t *testing.T, m mode) *bench {
	t.Helper()
	mem, e := machine.New(many)
	ok(t, e)
	rows, e := granule.New(many)
	ok(t, e)
	o := oracle.New(m.ideal, digest(1), m.draws...)
	p := paging.Parts{O: o, M: mem, T: rows, X: rtt.New(mem, rows), R: realm.New(o)}
	// What a granule had ahead of being the monitor's is still there; the monitor's own are noughts first.
	for g := range many {
		ok(t, mem.Put(g, bytesOf(byte(3*g+1))))
	}
	for g := range mine {
		ok(t, rows.Step(g, api.Undelegated, api.Delegated, 0))
	}
	b := &bench{t: t, p: p}
	b.makes(rd, root, nodes, 0, 64, 124)
	b.makes(other, other+1, otherNodes, 0, 124)
	b.adopts(m)
	return b
}

// makes makes a realm, with a tree of nothing, and tables to each of the pages, in the granules behind its root.
func (b *bench) makes(at, root, nodes int, pages ...int) {
	b.t.Helper()
	top, e := tree.Lay(b.p.O, b.p.M, uint64(size*nodes))
	ok(b.t, e)
	r, e := b.p.R.Create(at, root, api.RealmParams{Value: digest(byte(at)), Nodes: uint64(size * nodes)}, top)
	ok(b.t, e)
	for g := range 64 {
		ok(b.t, b.p.T.Hold(nodes+g))
	}
	ok(b.t, b.p.T.Step(at, api.Delegated, api.StateRD, r.Instance))
	ok(b.t, b.p.T.Step(root, api.Delegated, api.StateTable, r.Instance))
	ok(b.t, b.p.M.Scrub(root))
	free := root + 1
	for _, page := range pages {
		for level := 1; level < api.Levels; level++ {
			if w, e := b.p.X.Walk(root, page); e != api.OK || w.Level >= level {
				continue
			}
			ok(b.t, b.p.X.Create(root, r.Instance, free, page, level))
			free++
		}
	}
}

// adopts has a model of what the parts have now, which goes on apart from them.
func (b *bench) adopts(m mode) {
	b.t.Helper()
	a := &model{mode: m, answers: map[string]api.Digest{}, log: b.p.O.Log(), realms: map[int]*own{}}
	for _, x := range a.log {
		a.answers[string(textOf(x.Question))] = x.Answer
	}
	for g := range many {
		bytes, e := b.p.M.Get(g)
		ok(b.t, e)
		row, e := b.p.T.Row(g)
		ok(b.t, e)
		a.memory, a.rows = append(a.memory, bytes), append(a.rows, row)
	}
	for at, r := range b.p.R.All() {
		o := &own{r, map[int]place{}}
		for page := range api.Open {
			if w, e := b.p.X.Walk(r.Root, page); e == api.OK && w.Level == 3 {
				o.where[page] = place{w.Table, w.Slot}
			}
		}
		a.realms[at] = o
	}
	b.a = a
}

// inModes runs a test in each of these modes, with parts of its own.
func inModes(t *testing.T, l []mode, test func(b *bench)) {
	for _, m := range l {
		t.Run(m.name, func(t *testing.T) { test(fresh(t, m)) })
	}
}

func sameAsked(a, b api.Asked) bool {
	return a.Answer == b.Answer && bytes.Equal(textOf(a.Question), textOf(b.Question))
}

// asIs says that what was asked, in its order, with the answers, each byte of memory, each row, and each realm are the model's.
func (b *bench) asIs(what ...any) {
	b.t.Helper()
	if got := b.p.O.Log(); !slices.EqualFunc(got, b.a.log, sameAsked) {
		n := min(len(got), len(b.a.log))
		for n > 0 && !sameAsked(got[n-1], b.a.log[n-1]) {
			n--
		}
		b.t.Fatalf("%v: asked %x; not %x", what, got[n:], b.a.log[n:])
	}
	for g := range many {
		bytes, e := b.p.M.Get(g)
		if row, f := b.p.T.Row(g); e != api.OK || f != api.OK || row != b.a.rows[g] || bytes != b.a.memory[g] {
			b.t.Fatalf("%v: the granule %d: %v, %x; not %v, %x", what, g, row, bytes, b.a.rows[g], b.a.memory[g])
		}
	}
	got := maps.Collect(b.p.R.All())
	if len(got) != len(b.a.realms) {
		b.t.Fatal(what, "realms", len(got))
	}
	for at, r := range b.a.realms {
		if !reflect.DeepEqual(got[at], r.realm) {
			b.t.Fatal(what, "the realm", at, got[at], "not", r.realm)
		}
	}
}

// answer is what a call should answer, or does.
type answer[T comparable] struct {
	x T
	e api.Errno
}

func answered[T comparable](x T, e api.Errno) answer[T] { return answer[T]{x, e} }

// ends holds what a call answered against the model's, and all else.
func ends[T comparable](b *bench, got, want answer[T], what ...any) answer[T] {
	b.t.Helper()
	if got != want {
		b.t.Fatal(what, got.x, got.e, "not", want.x, want.e)
	}
	b.asIs(what...)
	return got
}

func (b *bench) place(at, page, g int, x api.Granule) api.Errno {
	b.t.Helper()
	return ends(b, answered(0, b.p.Place(at, page, g, x)), answered(0, b.a.place(at, page, g, x)), "Place", at, page, g).e
}

func (b *bench) zero(at, page, g int) api.Errno {
	b.t.Helper()
	return ends(b, answered(0, b.p.Zero(at, page, g)), answered(0, b.a.zero(at, page, g)), "Zero", at, page, g).e
}

func (b *bench) export(at, page, to int) answer[uint64] {
	b.t.Helper()
	return ends(b, answered(b.p.Export(at, page, to)), answered(b.a.export(at, page, to)), "Export", at, page, to)
}

func (b *bench) bringIn(at, page, g, src int, counter uint64) api.Errno {
	b.t.Helper()
	return ends(b, answered(0, b.p.Import(at, page, g, src, counter)), answered(0, b.a.bringIn(at, page, g, src, counter)), "Import", at, page, g, src, counter).e
}

func (b *bench) destroy(at, page int) answer[int] {
	b.t.Helper()
	return ends(b, answered(b.p.Destroy(at, page)), answered(b.a.destroy(at, page)), "Destroy", at, page)
}

func (b *bench) reclaim(at, page int) answer[bool] {
	b.t.Helper()
	return ends(b, answered(b.p.Reclaim(at, page)), answered(b.a.reclaim(at, page)), "Reclaim", at, page)
}

func (b *bench) page(at, page int) answer[api.Granule] {
	b.t.Helper()
	return ends(b, answered(b.p.Page(at, page)), answered(b.a.page(at, page)), "Page", at, page)
}

// put writes a granule as the host does.
func (b *bench) put(g int, x api.Granule) {
	b.t.Helper()
	ok(b.t, b.p.M.Put(g, x), "Put", g)
	b.a.memory[g] = x
}

// turn turns a bit of a granule of the host's.
func (b *bench) turn(g, bit int) {
	b.t.Helper()
	x := b.a.memory[g]
	x[bit/8] ^= 1 << (bit % 8)
	b.put(g, x)
}

// turnNode turns a bit of a node of a realm.
func (b *bench) turnNode(at, i, bit int) {
	b.t.Helper()
	b.turn(int(b.a.realms[at].realm.Nodes/size)+i/4, i%4*256+bit)
}

// hold holds a granule once more, and let once less.
func (b *bench) hold(g int) {
	b.t.Helper()
	ok(b.t, b.p.T.Hold(g), "Hold", g)
	b.a.rows[g].Held++
}

func (b *bench) let(g int) {
	b.t.Helper()
	ok(b.t, b.p.T.Let(g), "Let", g)
	b.a.rows[g].Held--
}

// step has a granule take a step.
func (b *bench) step(g int, from, to api.GState, owner uint64) {
	b.t.Helper()
	ok(b.t, b.p.T.Step(g, from, to, owner), "Step", g, from, to)
	b.a.rows[g].State, b.a.rows[g].Owner = to, owner
}

// becomes has a realm that is New become that.
func (b *bench) becomes(at int, s api.RState) {
	b.t.Helper()
	switch s {
	case api.Active:
		ok(b.t, b.p.R.Activate(at))
	case api.Dead:
		ok(b.t, b.p.R.Kill(at))
	}
	b.a.realms[at].realm.State = s
}

// right says that a call was not refused.
func (b *bench) right(e api.Errno) {
	b.t.Helper()
	if e != api.OK {
		b.t.Fatal("refused", e)
	}
}

// wrong says that it was, so.
func (b *bench) wrong(e, want api.Errno) {
	b.t.Helper()
	if e != want {
		b.t.Fatal(e, "not", want)
	}
}

// lays has a page of a new realm be that, ahead of what a test is about.
func (b *bench) lays(at, page, g int, x api.Granule) {
	b.t.Helper()
	b.right(b.place(at, page, g, x))
}

// out is a page that was taken out: which, by which counter, to what, and what it was.
type out struct {
	at, page int
	counter  uint64
	sealed   api.Granule
	plain    api.Granule
}

// takes takes a page out, and says what came of it.
func (b *bench) takes(at, page, to int) out {
	b.t.Helper()
	was := b.page(at, page)
	x := b.export(at, page, to)
	if was.e != api.OK || x.e != api.OK {
		b.t.Fatal("refused", at, page, was.e, x.e)
	}
	return out{at, page, x.x, b.a.memory[to], was.x}
}

// one is one of a list, drawn.
func one[T any](r *rand.Rand, l ...T) T { return l[r.Intn(len(l))] }

// run is calls that are drawn, with what was taken out so far, and what the nodes were like.
type run struct {
	*bench
	r    *rand.Rand
	outs []out
	was  []map[int]api.Granule
}

// granule is a granule that is drawn: mostly one that is in that state, if there is one.
func (b *run) granule(s api.GState) int {
	if b.r.Intn(15) == 0 {
		return one(b.r, -1, many, rd, root, other, mine, nodes, 1<<40)
	}
	for range 200 {
		if g := b.r.Intn(many); b.a.rows[g].State == s && (g < nodes || g >= otherNodes+64 || b.r.Intn(30) == 0) {
			return g
		}
	}
	return b.r.Intn(many)
}

// spot is a realm and a page that are drawn, few mostly, so that they meet; of an entry of that kind mostly, if there is one.
func (b *run) spot(kind api.EntryKind) (int, int) {
	for range 40 {
		at, page := one(b.r, rd, rd, other), one(b.r, 0, 1, 2, 3, 124, 126, 127)
		if b.a.entry(b.a.realms[at], page).Kind == kind {
			return at, page
		}
	}
	return one(b.r, rd, other, 7, -1), one(b.r, 0, 2, 127, 64, 65, 5, 100, 128, -1)
}

// nodesNow are the granules of a realm's nodes as they lie.
func (b *run) nodesNow() map[int]api.Granule {
	out := map[int]api.Granule{}
	for g := range 64 {
		out[nodes+g], out[otherNodes+g] = b.a.memory[nodes+g], b.a.memory[otherNodes+g]
	}
	return out
}

// back brings a page in again, or tries to: by its latest blob and counter mostly.
func (b *run) back() {
	b.t.Helper()
	at, page := b.spot(api.EntryExported)
	x := out{sealed: bytesOf(7), counter: uint64(b.r.Intn(4))}
	for _, o := range b.outs {
		if o.at == at && o.page == page && b.r.Intn(8) > 0 {
			x = o
		}
	}
	src := b.granule(api.Undelegated)
	if src >= 0 && src < many && b.a.rows[src].State == api.Undelegated {
		b.put(src, x.sealed)
	}
	if b.r.Intn(15) == 0 {
		x.counter = one(b.r, 0, x.counter+1, last, last+1, 1<<63)
	}
	b.bringIn(at, page, b.granule(api.Delegated), src, x.counter)
}

// holds lets go what is held of the monitor's, and holds another one of it.
func (b *run) holds() {
	b.t.Helper()
	for g := range mine {
		if b.a.rows[g].Held > 0 {
			b.let(g)
		}
	}
	for range 4 {
		b.hold(b.r.Intn(mine))
	}
}

// spoils changes a node, or a granule of nodes to what it was once.
func (b *run) spoils() {
	b.t.Helper()
	at := one(b.r, rd, other)
	if b.r.Intn(2) == 0 {
		b.turnNode(at, 2+b.r.Intn(254), b.r.Intn(256))
		return
	}
	g := int(b.a.realms[at].realm.Nodes/size) + b.r.Intn(64)
	b.put(g, one(b.r, b.was...)[g])
}

// apart is what goes on apart from b, from where b is.
func (b *bench) apart() *bench {
	o, m, rows := b.p.O.Copy(), b.p.M.Copy(), b.p.T.Copy()
	a := &model{b.a.mode, maps.Clone(b.a.answers), slices.Clone(b.a.log), slices.Clone(b.a.memory), slices.Clone(b.a.rows), map[int]*own{}}
	for at, r := range b.a.realms {
		c := *r
		c.realm.Log = slices.Clone(r.realm.Log)
		a.realms[at] = &c
	}
	return &bench{b.t, paging.Parts{O: o, M: m, T: rows, X: rtt.New(m, rows), R: b.p.R.Copy(o)}, a}
}

// any does a call that is drawn, its arguments too.
func (b *run) any() {
	b.t.Helper()
	switch b.r.Intn(14) {
	case 0, 1:
		at, page := b.spot(api.EntryEmpty)
		b.place(at, page, b.granule(api.Delegated), one(b.r, plains()...))
	case 2:
		at, page := b.spot(api.EntryAwaiting)
		b.zero(at, page, b.granule(api.Delegated))
	case 3, 4, 5, 6:
		at, page := b.spot(api.EntryData)
		was, to := b.page(at, page), b.granule(api.Undelegated)
		if x := b.export(at, page, to); x.e == api.OK {
			b.outs = append(b.outs, out{at, page, x.x, b.a.memory[to], was.x})
			b.was = append(b.was, b.nodesNow())
		}
	case 7, 8, 9:
		b.back()
	case 10:
		b.destroy(b.spot(one(b.r, api.EntryData, api.EntryExported, api.EntryExported)))
	case 11:
		b.reclaim(b.spot(api.EntryDestroyed))
	case 12:
		b.page(b.spot(api.EntryData))
	default:
		b.holds()
	}
}

// P17.1 to P17.4, P0.1, P0.8: calls that are drawn, each held against the model; now and then apart from what goes on, with nodes that were spoilt.
func TestAnyCalls(t *testing.T) {
	inModes(t, modes(), func(b *bench) {
		r := &run{bench: b, r: rand.New(rand.NewSource(17))}
		r.was = append(r.was, r.nodesNow())
		for i := range 300 {
			r.any()
			if i%25 == 24 {
				c := &run{b.apart(), r.r, slices.Clone(r.outs), slices.Clone(r.was)}
				for range 25 {
					c.spoils()
					c.any()
				}
				b.asIs("what goes on apart")
			}
			if i == 150 {
				b.becomes(rd, api.Active)
			}
			if i == 270 {
				b.becomes(other, api.Dead)
			}
		}
	})
}
