package realm_test

import (
	"crypto/hmac"
	"crypto/sha256"
	"maps"
	"math"
	"reflect"
	"slices"
	"testing"

	"anchorite/api"
	"anchorite/oracle"
	"anchorite/realm"
)

const lastNodes = 4032 * 128 // the last place from which 64 granules lie below MaxGranules

// want says of a call that it ended so.
func (b *bench) want(got, want api.Errno) {
	b.t.Helper()
	if got != want {
		b.t.Fatal(got, "not", want)
	}
}

// made is a realm at rd, whose parts all differ from another one's.
func (b *bench) made(rd int) api.Realm {
	b.t.Helper()
	by := byte(rd)
	r, e := b.create(rd, rd+1, api.RealmParams{Value: digest(by), Nodes: 128 * uint64(by)}, digest(by+100))
	b.want(e, api.OK)
	return r
}

// states are the three; to brings a realm that is New into one.
func states() []api.RState { return []api.RState{api.New, api.Active, api.Dead} }

func (b *bench) to(rd int, s api.RState) {
	b.t.Helper()
	switch s {
	case api.Active:
		b.want(b.activate(rd), api.OK)
	case api.Dead:
		b.want(b.kill(rd), api.OK)
	}
	if r := b.get(rd); r.State != s {
		b.t.Fatal(r.State, "not", s)
	}
}

func (b *bench) get(rd int) api.Realm {
	b.t.Helper()
	r, e := b.x.Get(rd)
	b.want(e, api.OK)
	return r
}

func sum(parts ...[]byte) api.Digest { return sha256.Sum256(slices.Concat(parts...)) }

// P11.1

func TestNew(t *testing.T) {
	for _, m := range modes() {
		o := oracle.New(m.ideal, m.master, m.draws...)
		x := realm.New(o)
		if x == nil {
			t.Fatal("New: nil")
		}
		if l := allOf(x); len(l) != 0 {
			t.Error("All of new ones", l)
		}
		if rd, is := x.Find(1); rd != 0 || is {
			t.Error("Find in new ones", rd, is)
		}
		if r, e := x.Get(0); e != api.ErrNone || !reflect.DeepEqual(r, api.Realm{}) {
			t.Error("Get of new ones", r, e)
		}
		if len(o.Log()) != 0 || o.Used() != 0 {
			t.Error("New asked something", o.Log())
		}
	}
}

// Both go by one oracle; their realms, and their instances, are apart.
func TestNewOnesAreApart(t *testing.T) {
	o := oracle.New(true, digest(1))
	a, b := realm.New(o), realm.New(o)
	for i := range 3 {
		if r, e := a.Create(i, 4, api.RealmParams{}, api.Digest{}); e != api.OK || r.Instance != uint64(i+1) {
			t.Error(r, e)
		}
	}
	if l := allOf(b); len(l) != 0 {
		t.Error(l)
	}
	if r, e := b.Create(0, 4, api.RealmParams{}, api.Digest{}); e != api.OK || r.Instance != 1 {
		t.Error(r, e)
	}
}

// The chapter's examples, in both modes.
func TestExamples(t *testing.T) {
	inModes(t, func(b *bench) {
		p, tree := api.RealmParams{Value: digest(1), Nodes: 128}, digest(2)
		r, e := b.create(3, 4, p, tree)
		if e != api.OK || r.Instance != 1 {
			b.t.Error("Create(3, 4)", r, e)
		}
		if r, e := b.create(3, 5, p, tree); e != api.ErrState || r.Instance != 0 {
			b.t.Error("Create(3, 5)", r, e)
		}
		b.want(b.activate(3), api.OK)
		b.want(b.data(3, 0, page(1)), api.ErrState)
		b.want(b.drop(3), api.OK)
		r, e = b.create(3, 4, p, tree)
		if e != api.OK || r.Instance != 2 {
			b.t.Error("Create(3, 4), again", r, e)
		}
	})
}

// Each part of what is made, written out.
func TestCreate(t *testing.T) {
	inModes(t, func(b *bench) {
		value, tree := digest(5), digest(6)
		r, e := b.create(3, 4, api.RealmParams{Value: value, Nodes: 256}, tree)
		b.want(e, api.OK)
		l := b.o.Log()
		if len(l) != 2 {
			b.t.Fatal("asked", l)
		}
		want := api.Realm{
			Instance: 1, State: 1, Root: 4, Nodes: 256, Measure: l[0].Answer,
			Log: []api.Record{{Kind: 1, Value: value}},
			Key: l[1].Answer, Counter: 0, Tree: tree, Recs: 0,
		}
		if !reflect.DeepEqual(r, want) || !reflect.DeepEqual(b.get(3), want) {
			b.t.Errorf("%v, %v; not %v", r, b.get(3), want)
		}
		first := api.Question{Kind: api.QDigest, Domain: api.DomParams, Data: value[:]}
		second := api.Question{Kind: api.QKey, Key: b.m.o.master, Domain: api.DomRealmKey, Data: []byte{1, 0, 0, 0, 0, 0, 0, 0}}
		if !reflect.DeepEqual(l[0].Question, first) || !reflect.DeepEqual(l[1].Question, second) {
			b.t.Errorf("asked %v; not %v, %v", l, first, second)
		}
	})
}

// What is measured in concrete mode, byte by byte, by the library: the model and the program may not err together.
func TestMeasuredByHand(t *testing.T) {
	master, value := digest(1), digest(5)
	x := realm.New(oracle.New(false, master))
	is := func(measure api.Digest) {
		t.Helper()
		h := hmac.New(sha256.New, master[:])
		h.Write(slices.Concat([]byte{3}, master[:], []byte{8}, []byte{1, 0, 0, 0, 0, 0, 0, 0}))
		r, e := x.Get(0)
		if e != api.OK || r.Measure != measure || r.Key != api.Digest(h.Sum(nil)) {
			t.Fatal(r, e, "not", measure)
		}
	}
	none := make([]byte, 32)
	x.Create(0, 0, api.RealmParams{Value: value}, api.Digest{})
	m := sum([]byte{1}, none, []byte{1}, value[:])
	is(m)
	g := page(3)
	x.Data(0, 127, g)
	m = sum([]byte{1}, none, []byte{2}, m[:], []byte{127, 0, 0, 0, 0, 0, 0, 0}, g[:])
	is(m)
	p := api.RecParams{PC: 0x1122334455667788, Runnable: true}
	p.Regs[0], p.Regs[7] = 0x0102030405060708, 255
	rec := make([]byte, 128)
	copy(rec, []byte{'r', 'e', 'c', 0, 0, 0, 0, 0, 0x88, 0x77, 0x66, 0x55, 0x44, 0x33, 0x22, 0x11, 8, 7, 6, 5, 4, 3, 2, 1})
	rec[72], rec[80] = 255, 1
	x.AddRec(0, p)
	m = sum([]byte{1}, none, []byte{3}, m[:], rec)
	is(m)
	x.DropRec(0)
	x.Activate(0)
	is(m)
}

// Descriptors, roots and Nodes at their bounds; a root may be any number, also its descriptor's, or another's.
func TestCreateAtTheEdges(t *testing.T) {
	inModes(t, func(b *bench) {
		ends := []int{0, 1, 4095, 4096, math.MaxInt32, 1 << 40, math.MaxInt}
		nodes := []uint64{0, 128, 256, lastNodes - 128, lastNodes}
		for i, rd := range ends {
			for j, root := range ends {
				p := api.RealmParams{Value: digest(byte(i)), Nodes: nodes[(i+j)%len(nodes)]}
				r, e := b.create(rd, root, p, digest(byte(j)))
				if e != api.OK || r.Root != root || r.Nodes != p.Nodes || r.Instance != uint64(len(ends)*i+j+1) {
					b.t.Fatal(rd, root, p, r, e)
				}
				if j < len(ends)-1 {
					b.want(b.drop(rd), api.OK)
				}
			}
		}
		if len(allOf(b.x)) != len(ends) {
			b.t.Error(allOf(b.x))
		}
	})
}

// Create's errors name descriptors and roots alone: Nodes stand as they come.
func TestCreateDoesNotAskNodes(t *testing.T) {
	inModes(t, func(b *bench) {
		for rd, n := range []uint64{1, 100, lastNodes + 1, lastNodes + 128, 1 << 63, math.MaxUint64} {
			if r, e := b.create(rd, 0, api.RealmParams{Nodes: n}, api.Digest{}); e != api.OK || r.Nodes != n {
				b.t.Error(n, r, e)
			}
		}
	})
}

// Of two realms that are made of the same, the measurement is one; what else is measured, or what else they have, is not in it.
func TestMeasureBegins(t *testing.T) {
	for _, m := range distinctModes() {
		b := fresh(t, m)
		a, _ := b.create(1, 2, api.RealmParams{Value: digest(1), Nodes: 128}, digest(1))
		c, _ := b.create(2, 9, api.RealmParams{Value: digest(1), Nodes: 256}, digest(2))
		d, _ := b.create(3, 2, api.RealmParams{Value: digest(2), Nodes: 128}, digest(1))
		if a.Measure != c.Measure || a.Measure == d.Measure {
			t.Error("measurements", a, c, d)
		}
		if a.Key == c.Key || a.Key == d.Key || c.Key == d.Key {
			t.Error("keys", a, c, d)
		}
	}
}

func TestGet(t *testing.T) {
	inModes(t, func(b *bench) {
		for _, rd := range []int{5, 0, 3} {
			b.made(rd)
		}
		before := len(b.o.Log())
		for _, rd := range []int{0, 3, 5} {
			for range 2 {
				if r := b.get(rd); r.Root != rd+1 {
					b.t.Error(rd, r)
				}
			}
		}
		for _, rd := range []int{1, 2, 4, 6, -1, math.MinInt, math.MaxInt} {
			if r, e := b.x.Get(rd); e != api.ErrNone || !reflect.DeepEqual(r, api.Realm{}) {
				b.t.Error(rd, r, e)
			}
		}
		if len(b.o.Log()) != before {
			b.t.Error("Get asked something")
		}
	})
}

// P11.2

func TestData(t *testing.T) {
	inModes(t, func(b *bench) {
		b.made(3)
		b.made(4)
		other := b.get(4)
		last := b.get(3)
		for i, at := range []int{0, 127, 1, 126, 64, 0, 0} {
			asked := len(b.o.Log())
			b.want(b.data(3, at, page(byte(i))), api.OK)
			r := b.get(3)
			one := api.Record{Kind: 2, Page: at, Data: page(byte(i))}
			if len(r.Log) != i+2 || r.Log[i+1] != one {
				b.t.Fatal("the Log", r.Log)
			}
			g := page(byte(i))
			q := api.Question{Kind: api.QDigest, Domain: api.DomData, Data: slices.Concat(last.Measure[:], []byte{byte(at), 0, 0, 0, 0, 0, 0, 0}, g[:])}
			if l := b.o.Log(); len(l) != asked+1 || !reflect.DeepEqual(l[asked], api.Asked{Question: q, Answer: r.Measure}) {
				b.t.Fatal("asked", l[asked:], "not", q)
			}
			r.Log, r.Measure = last.Log, last.Measure
			if !reflect.DeepEqual(r, last) {
				b.t.Fatal("something else is changed", r, last)
			}
			last = b.get(3)
		}
		if !reflect.DeepEqual(b.get(4), other) {
			b.t.Error("another realm is changed")
		}
	})
}

// Every page that there is, and of each what lies beside it.
func TestDataOfEachPage(t *testing.T) {
	inModes(t, func(b *bench) {
		for at := -3; at < 132; at++ {
			x := realm.New(b.o)
			x.Create(0, 0, api.RealmParams{}, api.Digest{})
			want := api.OK
			if at < 0 || at > 127 {
				want = api.ErrArg
			}
			b.want(x.Data(0, at, api.Granule{}), want)
			r, _ := x.Get(0)
			if want == api.OK && (len(r.Log) != 2 || r.Log[1] != api.Record{Kind: api.RecordData, Page: at}) {
				b.t.Error(at, r.Log)
			}
			if want != api.OK && len(r.Log) != 1 {
				b.t.Error(at, r.Log)
			}
		}
	})
}

// Each byte of a page, and the page itself, is in the measurement.
func TestEachByteIsMeasured(t *testing.T) {
	for _, ideal := range []bool{false, true} {
		o := oracle.New(ideal, digest(1))
		seen := map[api.Digest]int{}
		try := func(at int, g api.Granule) {
			x := realm.New(o)
			x.Create(0, 0, api.RealmParams{}, api.Digest{})
			x.Data(0, at, g)
			r, _ := x.Get(0)
			seen[r.Measure]++
		}
		for i := range api.GranuleSize {
			g := page(0)
			g[i] ^= 1
			try(5, g)
		}
		for at := range api.Open {
			try(at, page(0))
		}
		if len(seen) != 256 {
			t.Error(len(seen), "measurements")
		}
	}
}

func TestAddRec(t *testing.T) {
	inModes(t, func(b *bench) {
		b.made(3)
		b.made(4)
		other := b.get(4)
		last := b.get(3)
		full := vcpu(math.MaxUint64-7, true)
		for i := range full.Regs {
			full.Regs[i] = math.MaxUint64
		}
		for i, p := range []api.RecParams{{}, {Runnable: true}, vcpu(8, false), vcpu(8, true), vcpu(1<<63, true), full} {
			asked := len(b.o.Log())
			b.want(b.addRec(3, p), api.OK)
			r := b.get(3)
			one := api.Record{Kind: 3, Rec: p}
			if len(r.Log) != i+2 || r.Log[i+1] != one || r.Recs != i+1 {
				b.t.Fatal("the Log", r.Log, r.Recs)
			}
			q := api.Question{Kind: api.QDigest, Domain: api.DomRec, Data: slices.Concat(last.Measure[:], recBytes(p))}
			if l := b.o.Log(); len(l) != asked+1 || !reflect.DeepEqual(l[asked], api.Asked{Question: q, Answer: r.Measure}) {
				b.t.Fatal("asked", l[asked:], "not", q)
			}
			r.Log, r.Measure, r.Recs = last.Log, last.Measure, last.Recs
			if !reflect.DeepEqual(r, last) {
				b.t.Fatal("something else is changed", r, last)
			}
			last = b.get(3)
		}
		if !reflect.DeepEqual(b.get(4), other) {
			b.t.Error("another realm is changed")
		}
	})
}

// The same page, or vCPU, once more is a record more; where the measurement is one that there was, the question is, too.
func TestTheSameTwice(t *testing.T) {
	inModes(t, func(b *bench) {
		b.made(3)
		for i := range 3 {
			b.want(b.data(3, 7, page(1)), api.OK)
			b.want(b.addRec(3, vcpu(8, true)), api.OK)
			r := b.get(3)
			if len(r.Log) != 2*i+3 || r.Recs != i+1 || r.Log[2*i+1] != r.Log[1] || r.Log[2*i+2] != r.Log[2] {
				b.t.Error(r)
			}
		}
	})
}

// A PC that is no multiple of 8: each of the lowest bits, at both ends.
func TestAddRecRefuses(t *testing.T) {
	inModes(t, func(b *bench) {
		b.made(3)
		for _, from := range []uint64{0, 8, 1 << 63, math.MaxUint64 - 7} {
			for i := range uint64(8) {
				want := api.ErrArg
				if i == 0 {
					want = api.OK
				}
				b.want(b.addRec(3, vcpu(from+i, true)), want)
			}
		}
		if r := b.get(3); r.Recs != 4 || len(r.Log) != 5 {
			b.t.Error(r)
		}
	})
}

// vCPUs are added and dropped, to none, and added again; what was measured stays.
func TestDropRec(t *testing.T) {
	inModes(t, func(b *bench) {
		b.made(3)
		b.made(4)
		b.want(b.addRec(4, vcpu(8, true)), api.OK)
		b.want(b.dropRec(3), api.ErrArg)
		for n := range 4 {
			for range n {
				b.want(b.addRec(3, vcpu(8*uint64(n), true)), api.OK)
			}
			measured, asked := b.get(3), len(b.o.Log())
			for i := range n {
				b.want(b.dropRec(3), api.OK)
				if r := b.get(3); r.Recs != n-1-i {
					b.t.Error(r.Recs)
				}
			}
			b.want(b.dropRec(3), api.ErrArg)
			measured.Recs = 0
			if !reflect.DeepEqual(b.get(3), measured) || len(b.o.Log()) != asked {
				b.t.Error("DropRec changed something else")
			}
		}
		if b.get(4).Recs != 1 {
			b.t.Error("another realm is changed")
		}
	})
}

// P11.3

// Each act in each of the three states.
func TestEachActInEachState(t *testing.T) {
	acts := map[string]struct {
		do   func(b *bench) api.Errno
		want [4]api.Errno // of New, Active, Dead, by their numbers
		then [4]api.RState
	}{
		"Activate": {func(b *bench) api.Errno { return b.activate(3) }, [4]api.Errno{1: api.OK, 2: api.ErrState, 3: api.ErrState}, [4]api.RState{1: api.Active, 2: api.Active, 3: api.Dead}},
		"Kill":     {func(b *bench) api.Errno { return b.kill(3) }, [4]api.Errno{}, [4]api.RState{1: api.Dead, 2: api.Dead, 3: api.Dead}},
		"Data":     {func(b *bench) api.Errno { return b.data(3, 9, page(9)) }, [4]api.Errno{2: api.ErrState, 3: api.ErrState}, [4]api.RState{1: api.New, 2: api.Active, 3: api.Dead}},
		"AddRec":   {func(b *bench) api.Errno { return b.addRec(3, vcpu(8, true)) }, [4]api.Errno{2: api.ErrState, 3: api.ErrState}, [4]api.RState{1: api.New, 2: api.Active, 3: api.Dead}},
		"DropRec":  {func(b *bench) api.Errno { return b.dropRec(3) }, [4]api.Errno{}, [4]api.RState{1: api.New, 2: api.Active, 3: api.Dead}},
		"Next":     {func(b *bench) api.Errno { _, e := b.next(3); return e }, [4]api.Errno{}, [4]api.RState{1: api.New, 2: api.Active, 3: api.Dead}},
		"SetTree":  {func(b *bench) api.Errno { return b.setTree(3, digest(77)) }, [4]api.Errno{}, [4]api.RState{1: api.New, 2: api.Active, 3: api.Dead}},
		"Create":   {func(b *bench) api.Errno { _, e := b.create(3, 9, api.RealmParams{}, digest(7)); return e }, [4]api.Errno{1: api.ErrState, 2: api.ErrState, 3: api.ErrState}, [4]api.RState{1: api.New, 2: api.Active, 3: api.Dead}},
		"Drop":     {func(b *bench) api.Errno { return b.drop(3) }, [4]api.Errno{1: api.ErrUse, 2: api.ErrUse, 3: api.ErrUse}, [4]api.RState{1: api.New, 2: api.Active, 3: api.Dead}},
	}
	inModes(t, func(b *bench) {
		for name, act := range acts {
			for _, s := range states() {
				c := fresh(b.t, b.m.o.mode)
				c.made(3)
				c.want(c.addRec(3, vcpu(16, true)), api.OK)
				c.to(3, s)
				if e := act.do(c); e != act.want[s] {
					b.t.Error(name, "in the state", s, e, "not", act.want[s])
				}
				if r := c.get(3); r.State != act.then[s] {
					b.t.Error(name, "in the state", s, "then", r.State)
				}
			}
		}
	})
}

// Activate and Kill change the state alone, and ask nothing.
func TestActivateKill(t *testing.T) {
	inModes(t, func(b *bench) {
		for _, rd := range []int{2, 3, 4} {
			b.made(rd)
			b.want(b.data(rd, 1, page(1)), api.OK)
			b.want(b.addRec(rd, vcpu(8, true)), api.OK)
			b.next(rd)
		}
		was, asked := b.get(3), len(b.o.Log())
		beside := []api.Realm{b.get(2), b.get(4)}
		b.want(b.activate(3), api.OK)
		was.State = 2
		if !reflect.DeepEqual(b.get(3), was) {
			b.t.Error("Activate", b.get(3), was)
		}
		b.want(b.activate(3), api.ErrState)
		for range 3 {
			b.want(b.kill(3), api.OK)
			was.State = 3
			if !reflect.DeepEqual(b.get(3), was) {
				b.t.Error("Kill", b.get(3), was)
			}
		}
		b.want(b.activate(3), api.ErrState)
		if !reflect.DeepEqual(beside, []api.Realm{b.get(2), b.get(4)}) || len(b.o.Log()) != asked {
			b.t.Error("another realm, or the oracle, is changed")
		}
	})
}

// A realm without vCPUs goes, in whichever state; one that has some stays.
func TestDrop(t *testing.T) {
	inModes(t, func(b *bench) {
		for _, s := range states() {
			for n := range 3 {
				b.made(3)
				b.made(4)
				for range n {
					b.want(b.addRec(3, vcpu(8, true)), api.OK)
				}
				b.to(3, s)
				asked := len(b.o.Log())
				for range n {
					b.want(b.drop(3), api.ErrUse)
					b.want(b.dropRec(3), api.OK)
				}
				b.want(b.drop(3), api.OK)
				b.want(b.drop(3), api.ErrNone)
				if r, e := b.x.Get(3); e != api.ErrNone || !reflect.DeepEqual(r, api.Realm{}) {
					b.t.Error(r, e)
				}
				b.want(b.drop(4), api.OK)
				if len(b.o.Log()) != asked {
					b.t.Error("Drop asked something")
				}
			}
		}
	})
}

// A descriptor that is used again has nothing of the realm that was there.
func TestDescriptorUsedAgain(t *testing.T) {
	inModes(t, func(b *bench) {
		b.made(3)
		b.want(b.data(3, 1, page(1)), api.OK)
		b.want(b.addRec(3, vcpu(8, true)), api.OK)
		b.next(3)
		b.next(3)
		b.want(b.setTree(3, digest(50)), api.OK)
		b.want(b.kill(3), api.OK)
		b.want(b.dropRec(3), api.OK)
		b.want(b.drop(3), api.OK)
		r := b.made(3)
		if r.Instance != 2 || r.State != api.New || len(r.Log) != 1 || r.Counter != 0 || r.Recs != 0 || r.Tree != digest(103) {
			b.t.Error(r)
		}
		b.want(b.data(3, 2, page(2)), api.OK)
		if n, e := b.next(3); n != 1 || e != api.OK {
			b.t.Error(n, e)
		}
	})
}

// P11.4

// Counters rise by one, each realm's by itself, whatever its state.
func TestNext(t *testing.T) {
	inModes(t, func(b *bench) {
		b.made(0)
		b.made(7)
		asked := len(b.o.Log())
		for i := range uint64(9) {
			if i == 3 {
				b.to(0, api.Active)
			}
			if i == 6 {
				b.to(0, api.Dead)
			}
			if n, e := b.next(0); n != i+1 || e != api.OK || b.get(0).Counter != i+1 {
				b.t.Error(n, e, b.get(0).Counter)
			}
		}
		if n, e := b.next(7); n != 1 || e != api.OK {
			b.t.Error(n, e)
		}
		if n, e := b.next(0); n != 10 || e != api.OK {
			b.t.Error(n, e)
		}
		if len(b.o.Log()) != asked {
			b.t.Error("Next asked something")
		}
	})
}

func TestSetTree(t *testing.T) {
	inModes(t, func(b *bench) {
		b.made(0)
		b.made(7)
		was, beside, asked := b.get(0), b.get(7), len(b.o.Log())
		for i, s := range states() {
			b.to(0, s)
			for _, tree := range []api.Digest{digest(byte(i)), digest(byte(i)), {}, {31: 1}} {
				b.want(b.setTree(0, tree), api.OK)
				was.Tree, was.State = tree, s
				if !reflect.DeepEqual(b.get(0), was) {
					b.t.Error(b.get(0), was)
				}
			}
		}
		if !reflect.DeepEqual(b.get(7), beside) || len(b.o.Log()) != asked {
			b.t.Error("another realm, or the oracle, is changed")
		}
	})
}

// P11.5

// All of none, of one, of several that were made in another order than their descriptors'.
func TestAll(t *testing.T) {
	inModes(t, func(b *bench) {
		if l := allOf(b.x); len(l) != 0 {
			b.t.Error("of none", l)
		}
		var want []int
		for _, rd := range []int{40, 3, math.MaxInt - 1, 0, 1000, 2, 41, 4096, 1, 39} {
			b.made(rd)
			want = append(want, rd)
			slices.Sort(want)
			var got []int
			for rd, r := range b.x.All() {
				got = append(got, rd)
				if r.Root != rd+1 || !reflect.DeepEqual(r, b.get(rd)) {
					b.t.Error(rd, r)
				}
			}
			if !slices.Equal(got, want) {
				b.t.Error(got, "not", want)
			}
		}
		b.want(b.drop(3), api.OK)
		b.want(b.drop(0), api.OK)
		if l := allOf(b.x); len(l) != 8 || l[0].rd != 1 || l[1].rd != 2 || l[2].rd != 39 {
			b.t.Error(l)
		}
	})
}

// Rising descriptors, however many there are: a map's order would be seen.
func TestAllOfMany(t *testing.T) {
	x := realm.New(oracle.New(true, api.Digest{}))
	for i := range 500 {
		if _, e := x.Create(i*271%500, 0, api.RealmParams{}, api.Digest{}); e != api.OK {
			t.Fatal(e)
		}
	}
	for range 3 {
		i := 0
		for rd, r := range x.All() {
			if at, is := x.Find(r.Instance); rd != i || at != i || !is || i != int(r.Instance-1)*271%500 {
				t.Fatal(rd, r.Instance, at, is, i)
			}
			i++
		}
		if i != 500 {
			t.Error(i)
		}
	}
}

func TestAllLeftAndGoneOverAgain(t *testing.T) {
	inModes(t, func(b *bench) {
		for _, rd := range []int{5, 1, 3} {
			b.made(rd)
		}
		all := b.x.All()
		for many := range 5 {
			var got []int
			for rd := range all {
				got = append(got, rd)
				if len(got) > many {
					break
				}
			}
			if !slices.Equal(got, []int{1, 3, 5}[:min(many+1, 3)]) {
				b.t.Error(many, got)
			}
		}
		for outer := range all {
			n := 0
			for range all {
				n++
			}
			if n != 3 {
				b.t.Error("gone over within itself, at", outer, n)
			}
		}
		b.holds()
	})
}

// What All goes over is as it was when All was called: realms that are made, changed and dropped behind it are not seen.
func TestAllWhileRealmsChange(t *testing.T) {
	inModes(t, func(b *bench) {
		for _, rd := range []int{1, 3, 5, 7} {
			b.made(rd)
			b.want(b.data(rd, rd, page(byte(rd))), api.OK)
		}
		was := allOf(b.x)
		all := b.x.All()
		b.want(b.data(5, 2, page(8)), api.OK) // behind All, ahead of going over it
		for pass := range 2 {
			var got []item
			for rd, r := range all {
				got = append(got, item{rd, r})
				if pass > 0 || rd != 3 {
					continue
				}
				b.want(b.drop(1), api.OK)
				b.want(b.drop(7), api.OK)
				b.made(7)
				b.made(4)
				b.made(9)
				b.want(b.data(3, 1, page(9)), api.OK)
				b.want(b.addRec(5, vcpu(8, true)), api.OK)
				b.next(5)
				b.want(b.setTree(5, digest(99)), api.OK)
				b.want(b.kill(5), api.OK)
			}
			if !reflect.DeepEqual(got, was) {
				b.t.Fatal("pass", pass, got, "not", was)
			}
		}
		var now []int
		for rd := range b.x.All() {
			now = append(now, rd)
		}
		if !slices.Equal(now, []int{3, 4, 5, 7, 9}) {
			b.t.Error(now)
		}
	})
}

// Of an instance that is there, was there, never was, and of 0.
func TestFind(t *testing.T) {
	inModes(t, func(b *bench) {
		is := func(instance uint64, rd int, there bool) {
			b.t.Helper()
			if got, ok := b.x.Find(instance); got != rd || ok != there {
				b.t.Error("Find", instance, got, ok, "not", rd, there)
			}
		}
		is(0, 0, false)
		is(1, 0, false)
		for _, rd := range []int{9, 0, 4} {
			b.made(rd)
		}
		is(1, 9, true)
		is(2, 0, true)
		is(3, 4, true)
		for _, no := range []uint64{0, 4, 9, 1 << 32, 1<<32 + 1, 1 << 63, math.MaxUint64} {
			is(no, 0, false)
		}
		b.want(b.kill(9), api.OK)
		is(1, 9, true)
		b.want(b.drop(9), api.OK)
		is(1, 0, false)
		b.made(9)
		is(1, 0, false)
		is(4, 9, true)
		is(2, 0, true)
	})
}

// other is an oracle of that mode that was asked nothing.
func other(m mode) (*oracle.Oracle, *answerer) {
	return oracle.New(m.ideal, m.master, m.draws...), &answerer{m, map[string]api.Digest{}, nil}
}

// peopled is realms in each state, with and without records and vCPUs, one that is gone, and a counter.
func peopled(b *bench) {
	for _, rd := range []int{8, 2, 5, 3} {
		b.made(rd)
	}
	for i := range 5 {
		b.want(b.data(2, i, page(byte(i))), api.OK)
	}
	b.want(b.addRec(2, vcpu(8, true)), api.OK)
	b.want(b.addRec(5, vcpu(8, true)), api.OK)
	b.want(b.activate(5), api.OK)
	b.next(5)
	b.want(b.kill(8), api.OK)
	b.want(b.drop(3), api.OK)
}

// work does each thing to realms that peopled made.
func work(b *bench) {
	b.want(b.data(2, 9, page(90)), api.OK)
	b.want(b.addRec(2, vcpu(16, false)), api.OK)
	b.want(b.dropRec(5), api.OK)
	b.next(5)
	b.want(b.setTree(5, digest(91)), api.OK)
	b.want(b.kill(5), api.OK)
	b.want(b.drop(8), api.OK)
	b.made(3)
	b.made(6)
	b.want(b.activate(2), api.OK)
}

// Whichever of the two goes on, the other one stays; with each oracle.
func TestCopyGoesOnApart(t *testing.T) {
	inModes(t, func(b *bench) {
		for _, second := range modes() {
			for _, first := range []bool{true, false} {
				x := fresh(b.t, b.m.o.mode)
				peopled(x)
				y := x.copied(other(second))
				if first {
					x, y = y, x
				}
				work(x)
				y.holds("the one is seen by the other")
				work(y)
				x.holds("the other is seen by the one")
			}
		}
	})
}

// With the same oracle both ask it; with its copy each has its own.
func TestCopyWithTheSameOracle(t *testing.T) {
	inModes(t, func(b *bench) {
		peopled(b)
		c := b.copied(b.o, b.m.o)
		d := b.copied(b.o.Copy(), b.m.o.copy())
		work(c)
		b.holds("b, behind c")
		d.holds("d, behind c")
		asked := len(b.o.Log())
		work(b)
		if len(b.o.Log()) != asked {
			b.t.Error("the same was asked anew")
		}
		c.holds("c, behind b")
		d.holds("d, behind b")
		work(d)
		if !reflect.DeepEqual(allOf(b.x), allOf(c.x)) || !reflect.DeepEqual(allOf(b.x), allOf(d.x)) {
			b.t.Error("the same was done to all three")
		}
	})
}

// Instances go on from where they were, in each by itself; Copy asks nothing.
func TestCopyGoesOnWithInstances(t *testing.T) {
	inModes(t, func(b *bench) {
		peopled(b)
		c := b.copied(other(modes()[2]))
		if len(c.o.Log()) != 0 {
			b.t.Error("Copy asked something")
		}
		if r := c.made(30); r.Instance != 5 {
			b.t.Error(r.Instance)
		}
		if r := c.made(31); r.Instance != 6 {
			b.t.Error(r.Instance)
		}
		if r := b.made(30); r.Instance != 5 {
			b.t.Error(r.Instance)
		}
		for rd, r := range maps.Collect(b.x.All()) {
			if rd == 30 {
				continue
			}
			if s := c.get(rd); s.Key != r.Key || s.Measure != r.Measure {
				b.t.Error("a key, or measurement, is not what it was", rd)
			}
		}
		e := fresh(b.t, b.m.o.mode).copied(other(modes()[0]))
		if r := e.made(1); r.Instance != 1 {
			b.t.Error("a copy of none", r)
		}
	})
}

// A copy of a copy, of Logs of each length: what each adds is its own.
func TestCopiesLogsAreApart(t *testing.T) {
	inModes(t, func(b *bench) {
		b.made(1)
		all := []*bench{b}
		for i := range 9 {
			all = append(all, all[len(all)-1].copied(b.o, b.m.o))
			for j, c := range all {
				c.want(c.data(1, i, page(byte(10*i+j))), api.OK)
			}
			for j, c := range all {
				c.holds(i, j)
			}
		}
	})
}

// P11.6

// No two realms ever have one instance, gone or not; what is refused uses none up.
func TestInstancesAreNotUsedAgain(t *testing.T) {
	inModes(t, func(b *bench) {
		last := uint64(0)
		for i := range 40 {
			rd := i * 7 % 5
			r, e := b.create(rd, 1, api.RealmParams{}, api.Digest{})
			if e == api.ErrState {
				b.want(b.drop(rd), api.OK)
				continue
			}
			if e != api.OK || r.Instance != last+1 {
				b.t.Fatal(r, e, last)
			}
			last = r.Instance
			b.create(-1, 1, api.RealmParams{}, api.Digest{})
			b.create(rd, -1, api.RealmParams{}, api.Digest{})
		}
	})
}

// replayed is what records come to, by that oracle, one behind the other.
func replayed(t *testing.T, o *oracle.Oracle, l []api.Record) api.Digest {
	t.Helper()
	var m api.Digest
	for _, r := range l {
		var e api.Errno
		switch r.Kind {
		case api.RecordRealm:
			m, e = o.Digest(api.DomParams, r.Value[:])
		case api.RecordData:
			m, e = o.Digest(api.DomData, m[:], eight(uint64(r.Page)), r.Data[:])
		case api.RecordRec:
			m, e = o.Digest(api.DomRec, m[:], recBytes(r.Rec))
		default:
			t.Fatal("a record of no kind", r)
		}
		if e != api.OK {
			t.Fatal(e)
		}
	}
	return m
}

// A measurement is what the Log's records come to, be they none but the first, or many, of both kinds in turn.
func TestMeasureIsTheLogs(t *testing.T) {
	inModes(t, func(b *bench) {
		for _, many := range []int{0, 1, 2, 3, 40} {
			b.made(many)
			for i := range many {
				if i%3 == 1 {
					b.want(b.addRec(many, vcpu(8*uint64(i), i%2 == 0)), api.OK)
				} else {
					b.want(b.data(many, i*5%128, page(byte(i))), api.OK)
				}
			}
			r, asked := b.get(many), len(b.o.Log())
			if len(r.Log) != many+1 || replayed(b.t, b.o, r.Log) != r.Measure {
				b.t.Error(many, r)
			}
			if len(b.o.Log()) != asked {
				b.t.Error("it was measured by other questions")
			}
		}
	})
}

// The order of what is laid counts.
func TestOrderIsMeasured(t *testing.T) {
	for _, m := range distinctModes() {
		b := fresh(t, m)
		acts := []func(rd int) api.Errno{
			func(rd int) api.Errno { return b.data(rd, 0, page(1)) },
			func(rd int) api.Errno { return b.data(rd, 1, page(1)) },
			func(rd int) api.Errno { return b.addRec(rd, vcpu(8, true)) },
		}
		seen := map[api.Digest]int{}
		for i, order := range [][]int{{0, 1, 2}, {0, 2, 1}, {1, 0, 2}, {1, 2, 0}, {2, 0, 1}, {2, 1, 0}, {0, 1}, {0}, {0, 0}, {}} {
			b.create(i, 0, api.RealmParams{}, api.Digest{})
			for _, a := range order {
				b.want(acts[a](i), api.OK)
			}
			seen[b.get(i).Measure]++
		}
		if len(seen) != 10 {
			t.Error(m.name, len(seen))
		}
	}
}

// From Activate on the measurement stays, and the Log, whatever is tried; so do they from Kill on.
func TestMeasureStays(t *testing.T) {
	inModes(t, func(b *bench) {
		for _, s := range []api.RState{api.Active, api.Dead} {
			b.made(3)
			b.want(b.data(3, 1, page(1)), api.OK)
			b.want(b.addRec(3, vcpu(8, true)), api.OK)
			b.to(3, s)
			was := b.get(3)
			b.want(b.data(3, 1, page(1)), api.ErrState)
			b.want(b.data(3, 2, page(2)), api.ErrState)
			b.want(b.addRec(3, vcpu(8, true)), api.ErrState)
			b.want(b.activate(3), api.ErrState)
			b.next(3)
			b.want(b.setTree(3, digest(60)), api.OK)
			b.want(b.dropRec(3), api.OK)
			b.want(b.kill(3), api.OK)
			b.want(b.data(3, 1, page(1)), api.ErrState)
			now := b.get(3)
			if now.Measure != was.Measure || !slices.Equal(now.Log, was.Log) || now.Key != was.Key || now.Instance != was.Instance {
				b.t.Error(now, was)
			}
			b.want(b.drop(3), api.OK)
		}
	})
}
