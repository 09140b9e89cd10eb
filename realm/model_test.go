package realm_test

import (
	"bytes"
	"crypto/hmac"
	"crypto/sha256"
	"encoding/binary"
	"maps"
	"math"
	"math/rand"
	"reflect"
	"slices"
	"testing"

	"anchorite/api"
	"anchorite/oracle"
	"anchorite/realm"
)

// digest is 32 bytes that all differ, each by so many more.
func digest(by byte) api.Digest {
	var d api.Digest
	for i := range d {
		d[i] = byte(7*i+3) + by
	}
	return d
}

// page is 128 bytes that all differ, each by so many more.
func page(by byte) api.Granule {
	var g api.Granule
	for i := range g {
		g[i] = byte(5*i+1) + by
	}
	return g
}

// vcpu is a vCPU's parameters, no two of whose registers are alike.
func vcpu(pc uint64, runnable bool) api.RecParams {
	p := api.RecParams{PC: pc, Runnable: runnable}
	for i := range p.Regs {
		p.Regs[i] = pc ^ 0x0102030405060708*uint64(i+1)
	}
	return p
}

// mode is how an oracle answers, and of what.
type mode struct {
	name   string
	ideal  bool
	master api.Digest
	draws  []api.Digest
}

// modes are both, the ideal one with draws that run out, with none, and with such as are not distinct.
func modes() []mode {
	var five []api.Digest
	for i := range 5 {
		five = append(five, digest(byte(40+i)))
	}
	return []mode{
		{"concrete", false, digest(1), nil},
		{"concrete, another master key", false, digest(2), nil},
		{"ideal", true, digest(1), nil},
		{"ideal, five draws", true, digest(2), five},
		{"ideal, draws alike", true, api.Digest{}, slices.Repeat([]api.Digest{digest(9)}, 400)},
	}
}

// distinctModes are those in which no two questions have one answer.
func distinctModes() []mode { return modes()[:4] }

// answerer is what an oracle should answer, and what it should have noted.
type answerer struct {
	mode
	answers map[string]api.Digest
	log     []api.Asked
}

// textOf is a question's text, as layer 5 has it.
func textOf(q api.Question) []byte {
	out := append([]byte{byte(q.Kind)}, q.Key[:]...)
	return append(append(out, byte(q.Domain)), q.Data...)
}

func (a *answerer) ask(q api.Question) api.Digest {
	text := textOf(q)
	if d, is := a.answers[string(text)]; is {
		return d
	}
	var d api.Digest
	switch i := len(a.log); {
	case !a.ideal && q.Kind == api.QDigest:
		d = sha256.Sum256(text)
	case !a.ideal:
		h := hmac.New(sha256.New, q.Key[:])
		h.Write(text)
		d = api.Digest(h.Sum(nil))
	case i < len(a.draws):
		d = a.draws[i]
	default:
		binary.LittleEndian.PutUint64(d[:], uint64(i))
		d[31] = 1
	}
	a.answers[string(text)] = d
	a.log = append(a.log, api.Asked{Question: q, Answer: d})
	return d
}

func (a *answerer) copy() *answerer {
	return &answerer{a.mode, maps.Clone(a.answers), slices.Clone(a.log)}
}

// model is realms by the chapter's sentences, one by one.
type model struct {
	o      *answerer
	realms map[int]api.Realm
	last   uint64
}

// eight is the bytes of n, the lowest first.
func eight(n uint64) []byte { return binary.LittleEndian.AppendUint64(nil, n) }

// recBytes is a vCPU's parameters' bytes, as layer 10 has them.
func recBytes(p api.RecParams) []byte {
	out := make([]byte, 128)
	copy(out, "rec")
	copy(out[8:], eight(p.PC))
	for i, r := range p.Regs {
		copy(out[16+8*i:], eight(r))
	}
	if p.Runnable {
		out[80] = 1
	}
	return out
}

// next is the measurement behind m with one record more.
func (a *answerer) next(m api.Digest, r api.Record) api.Digest {
	q := api.Question{Kind: api.QDigest}
	switch r.Kind {
	case api.RecordRealm:
		q.Domain, q.Data = 1, slices.Clone(r.Value[:])
	case api.RecordData:
		q.Domain, q.Data = 2, slices.Concat(m[:], eight(uint64(r.Page)), r.Data[:])
	case api.RecordRec:
		q.Domain, q.Data = 3, slices.Concat(m[:], recBytes(r.Rec))
	}
	return a.ask(q)
}

func (m *model) create(rd, root int, p api.RealmParams, tree api.Digest) (api.Realm, api.Errno) {
	if rd < 0 || root < 0 {
		return api.Realm{}, api.ErrArg
	}
	if _, is := m.realms[rd]; is {
		return api.Realm{}, api.ErrState
	}
	m.last++
	first := api.Record{Kind: api.RecordRealm, Value: p.Value}
	r := api.Realm{Instance: m.last, State: 1, Root: root, Nodes: p.Nodes, Log: []api.Record{first}, Tree: tree}
	r.Measure = m.o.next(api.Digest{}, first)
	r.Key = m.o.ask(api.Question{Kind: api.QKey, Key: m.o.master, Domain: 8, Data: eight(m.last)})
	m.realms[rd] = r
	return r, api.OK
}

// add measures one record more. No two realms of a model share a Log's memory.
func (m *model) add(rd int, one api.Record) {
	r := m.realms[rd]
	r.Measure = m.o.next(r.Measure, one)
	r.Log = append(slices.Clone(r.Log), one)
	m.realms[rd] = r
}

func (m *model) data(rd, page int, g api.Granule) api.Errno {
	if page < 0 || page > 127 {
		return api.ErrArg
	}
	r, is := m.realms[rd]
	if !is {
		return api.ErrNone
	}
	if r.State != 1 {
		return api.ErrState
	}
	m.add(rd, api.Record{Kind: api.RecordData, Page: page, Data: g})
	return api.OK
}

func (m *model) addRec(rd int, p api.RecParams) api.Errno {
	r, is := m.realms[rd]
	if !is {
		return api.ErrNone
	}
	if r.State != 1 {
		return api.ErrState
	}
	if p.PC&7 != 0 {
		return api.ErrArg
	}
	m.add(rd, api.Record{Kind: api.RecordRec, Rec: p})
	r = m.realms[rd]
	r.Recs++
	m.realms[rd] = r
	return api.OK
}

func (m *model) dropRec(rd int) api.Errno {
	r, is := m.realms[rd]
	if !is {
		return api.ErrNone
	}
	if r.Recs == 0 {
		return api.ErrArg
	}
	r.Recs--
	m.realms[rd] = r
	return api.OK
}

func (m *model) activate(rd int) api.Errno {
	r, is := m.realms[rd]
	if !is {
		return api.ErrNone
	}
	if r.State != 1 {
		return api.ErrState
	}
	r.State = 2
	m.realms[rd] = r
	return api.OK
}

func (m *model) kill(rd int) api.Errno {
	r, is := m.realms[rd]
	if !is {
		return api.ErrNone
	}
	r.State = 3
	m.realms[rd] = r
	return api.OK
}

func (m *model) count(rd int) (uint64, api.Errno) {
	r, is := m.realms[rd]
	if !is {
		return 0, api.ErrNone
	}
	r.Counter++
	m.realms[rd] = r
	return r.Counter, api.OK
}

func (m *model) setTree(rd int, tree api.Digest) api.Errno {
	r, is := m.realms[rd]
	if !is {
		return api.ErrNone
	}
	r.Tree = tree
	m.realms[rd] = r
	return api.OK
}

func (m *model) drop(rd int) api.Errno {
	r, is := m.realms[rd]
	if !is {
		return api.ErrNone
	}
	if r.Recs > 0 {
		return api.ErrUse
	}
	delete(m.realms, rd)
	return api.OK
}

// bench is realms beside their model: each call is done to both, and then all that can be seen is held against each other.
type bench struct {
	t *testing.T
	o *oracle.Oracle
	x *realm.Realms
	m *model
}

func fresh(t *testing.T, m mode) *bench {
	t.Helper()
	o := oracle.New(m.ideal, m.master, m.draws...)
	a := &answerer{m, map[string]api.Digest{}, nil}
	b := &bench{t, o, realm.New(o), &model{a, map[int]api.Realm{}, 0}}
	b.holds("New")
	return b
}

// inModes runs a test in each mode, with realms of its own.
func inModes(t *testing.T, test func(b *bench)) {
	for _, m := range modes() {
		t.Run(m.name, func(t *testing.T) { test(fresh(t, m)) })
	}
}

// copied is others with a model of their own: with the same oracle, with one that was asked the same, or with a new one.
func (b *bench) copied(with *oracle.Oracle, a *answerer) *bench {
	b.t.Helper()
	realms := map[int]api.Realm{}
	for rd, r := range b.m.realms {
		r.Log = slices.Clone(r.Log)
		realms[rd] = r
	}
	c := &bench{b.t, with, b.x.Copy(with), &model{a, realms, b.m.last}}
	if c.x == nil || c.x == b.x {
		b.t.Fatal("Copy", c.x)
	}
	b.holds("Copy, these")
	c.holds("Copy, the others")
	return c
}

// item is what All tells at a time.
type item struct {
	rd int
	r  api.Realm
}

func allOf(x *realm.Realms) []item {
	var out []item
	for rd, r := range x.All() {
		out = append(out, item{rd, r})
	}
	return out
}

// holds says that the realms, and what was asked of their oracle, are the model's.
func (b *bench) holds(what ...any) {
	b.t.Helper()
	var want []item
	for _, rd := range slices.Sorted(maps.Keys(b.m.realms)) {
		r := b.m.realms[rd]
		want = append(want, item{rd, r})
		if got, e := b.x.Get(rd); e != api.OK || !reflect.DeepEqual(got, r) {
			b.t.Fatalf("%v: Get(%d): %v, %v; not %v", what, rd, got, e, r)
		}
		if at, is := b.x.Find(r.Instance); !is || at != rd {
			b.t.Fatal(what, "Find", r.Instance, at, is)
		}
	}
	if got := allOf(b.x); !reflect.DeepEqual(got, want) {
		b.t.Fatalf("%v: All: %v; not %v", what, got, want)
	}
	b.asked(what...)
}

// asked says that the questions that the oracle was asked, in their order, and the answers, are the model's.
func (b *bench) asked(what ...any) {
	b.t.Helper()
	same := func(a, b api.Asked) bool {
		return a.Answer == b.Answer && bytes.Equal(textOf(a.Question), textOf(b.Question))
	}
	if got := b.o.Log(); !slices.EqualFunc(got, b.m.o.log, same) {
		b.t.Fatalf("%v: asked %x; not %x", what, got, b.m.o.log)
	}
	used := 0
	if b.m.o.ideal {
		used = len(b.m.o.log)
	}
	if b.o.Used() != used {
		b.t.Fatal(what, "draws", b.o.Used(), "not", used)
	}
}

// ends holds the answer of a call against the model's, and all that can be seen.
func (b *bench) ends(got, want api.Errno, what ...any) api.Errno {
	b.t.Helper()
	if got != want {
		b.t.Fatal(append(what, got, "not", want)...)
	}
	b.holds(what...)
	return got
}

func (b *bench) create(rd, root int, p api.RealmParams, tree api.Digest) (api.Realm, api.Errno) {
	b.t.Helper()
	got, e := b.x.Create(rd, root, p, tree)
	want, f := b.m.create(rd, root, p, tree)
	if !reflect.DeepEqual(got, want) {
		b.t.Fatalf("Create(%d, %d): %v; not %v", rd, root, got, want)
	}
	return got, b.ends(e, f, "Create", rd, root, p)
}

func (b *bench) data(rd, page int, g api.Granule) api.Errno {
	b.t.Helper()
	return b.ends(b.x.Data(rd, page, g), b.m.data(rd, page, g), "Data", rd, page)
}

func (b *bench) addRec(rd int, p api.RecParams) api.Errno {
	b.t.Helper()
	return b.ends(b.x.AddRec(rd, p), b.m.addRec(rd, p), "AddRec", rd, p)
}

func (b *bench) dropRec(rd int) api.Errno {
	b.t.Helper()
	return b.ends(b.x.DropRec(rd), b.m.dropRec(rd), "DropRec", rd)
}

func (b *bench) activate(rd int) api.Errno {
	b.t.Helper()
	return b.ends(b.x.Activate(rd), b.m.activate(rd), "Activate", rd)
}

func (b *bench) kill(rd int) api.Errno {
	b.t.Helper()
	return b.ends(b.x.Kill(rd), b.m.kill(rd), "Kill", rd)
}

func (b *bench) next(rd int) (uint64, api.Errno) {
	b.t.Helper()
	got, e := b.x.Next(rd)
	want, f := b.m.count(rd)
	if got != want {
		b.t.Fatal("Next", rd, got, "not", want)
	}
	return got, b.ends(e, f, "Next", rd)
}

func (b *bench) setTree(rd int, tree api.Digest) api.Errno {
	b.t.Helper()
	return b.ends(b.x.SetTree(rd, tree), b.m.setTree(rd, tree), "SetTree", rd)
}

func (b *bench) drop(rd int) api.Errno {
	b.t.Helper()
	return b.ends(b.x.Drop(rd), b.m.drop(rd), "Drop", rd)
}

// any does a call that is drawn, its arguments too, right ones and wrong ones.
func (b *bench) any(r *rand.Rand) {
	b.t.Helper()
	rds := []int{0, 1, 2, 3, 3, 7, 7, math.MaxInt, -1}
	rd := rds[r.Intn(len(rds))]
	by := byte(r.Intn(3))
	switch r.Intn(14) {
	case 0, 1, 2:
		nodes := []uint64{0, 128, 4032 * 128}
		b.create(rd, r.Intn(9)-1, api.RealmParams{Value: digest(by), Nodes: nodes[by]}, digest(by+3))
	case 3, 4, 5:
		b.data(rd, r.Intn(131)-1, page(by))
	case 6, 7:
		b.addRec(rd, vcpu(8*uint64(r.Intn(3))+uint64(r.Intn(9)/8), by == 0))
	case 8:
		b.dropRec(rd)
	case 9:
		b.activate(rd)
	case 10:
		b.kill(rd)
	case 11:
		b.next(rd)
	case 12:
		b.setTree(rd, digest(by))
	case 13:
		b.drop(rd)
	}
	if _, is := b.m.realms[rd]; !is {
		if got, e := b.x.Get(rd); e != api.ErrNone || !reflect.DeepEqual(got, api.Realm{}) {
			b.t.Fatal("Get of none", rd, got, e)
		}
	}
}

// P11.1 to P11.6, P0.8: calls that are drawn, each held against the model.
func TestAnyCalls(t *testing.T) {
	inModes(t, func(b *bench) {
		for seed := range int64(8) {
			r := rand.New(rand.NewSource(seed))
			c := fresh(b.t, b.m.o.mode)
			for range 250 {
				c.any(r)
			}
		}
	})
}

// P11.5: the like, to several that are copies of each other.
func TestAnyCallsToCopies(t *testing.T) {
	inModes(t, func(b *bench) {
		for seed := range int64(3) {
			r := rand.New(rand.NewSource(seed))
			all := []*bench{fresh(b.t, b.m.o.mode)}
			for i := range 240 {
				c := all[r.Intn(len(all))]
				if i%30 == 29 {
					m := modes()[r.Intn(len(modes()))]
					other := &answerer{m, map[string]api.Digest{}, nil}
					switch r.Intn(3) {
					case 0:
						all = append(all, c.copied(c.o, c.m.o))
					case 1:
						all = append(all, c.copied(c.o.Copy(), c.m.o.copy()))
					case 2:
						all = append(all, c.copied(oracle.New(m.ideal, m.master, m.draws...), other))
					}
				}
				c.any(r)
				for _, d := range all {
					d.holds("what was done to another one is seen", i)
				}
			}
		}
	})
}
