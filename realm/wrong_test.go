package realm_test

import (
	"maps"
	"math"
	"reflect"
	"slices"
	"testing"

	"anchorite/api"
	"anchorite/oracle"
	"anchorite/realm"
)

// emptied is realms whose oracle was one, and is a zero one now.
func emptied() *realm.Realms {
	o := oracle.New(true, digest(1))
	x := realm.New(o)
	x.Create(3, 4, api.RealmParams{}, api.Digest{})
	*o = oracle.Oracle{}
	return x
}

// nones are realms that are not there, zero ones, and such of no oracle.
func nones() map[string]*realm.Realms {
	o := oracle.New(true, digest(1))
	whole := realm.New(o)
	whole.Create(3, 4, api.RealmParams{}, api.Digest{})
	return map[string]*realm.Realms{
		"nil":                           nil,
		"zero":                          {},
		"new":                           new(realm.Realms),
		"of no oracle":                  realm.New(nil),
		"of a zero oracle":              realm.New(&oracle.Oracle{}),
		"a copy with no oracle":         whole.Copy(nil),
		"a copy with a zero oracle":     whole.Copy(&oracle.Oracle{}),
		"of an oracle that was emptied": emptied(),
	}
}

// call is all that any of the calls takes.
type call struct {
	rd, root, page int
	p              api.RealmParams
	rec            api.RecParams
}

// errs are the errors of all calls that answer one; beside an error all else must be zero.
func errs(t *testing.T, x *realm.Realms, c call) map[string]api.Errno {
	t.Helper()
	out := map[string]api.Errno{
		"Data":     x.Data(c.rd, c.page, page(1)),
		"AddRec":   x.AddRec(c.rd, c.rec),
		"DropRec":  x.DropRec(c.rd),
		"Activate": x.Activate(c.rd),
		"Kill":     x.Kill(c.rd),
		"SetTree":  x.SetTree(c.rd, digest(2)),
		"Drop":     x.Drop(c.rd),
	}
	r, e := x.Create(c.rd, c.root, c.p, digest(1))
	if e != api.OK && !reflect.DeepEqual(r, api.Realm{}) {
		t.Error("Create: beside an error", r)
	}
	out["Create"] = e
	r, e = x.Get(c.rd)
	if e != api.OK && !reflect.DeepEqual(r, api.Realm{}) {
		t.Error("Get: beside an error", r)
	}
	out["Get"] = e
	n, e := x.Next(c.rd)
	if e != api.OK && n != 0 {
		t.Error("Next: beside an error", n)
	}
	out["Next"] = e
	return out
}

// ErrNil is told ahead of all, with arguments that are right, and wrong in each way.
func TestNoRealms(t *testing.T) {
	calls := []call{
		{rd: 3, root: 4},
		{rd: 0, root: 0, rec: vcpu(8, true)},
		{rd: -1, root: 4},
		{rd: 3, root: -1},
		{rd: 3, page: -1},
		{rd: 3, page: 128},
		{rd: 3, rec: vcpu(4, true)},
		{rd: -1, root: -1, page: 128, rec: vcpu(7, false), p: api.RealmParams{Nodes: 100}},
		{rd: math.MinInt, root: math.MinInt, page: math.MinInt},
		{rd: math.MaxInt, root: math.MaxInt, page: math.MaxInt},
	}
	for name, x := range nones() {
		for _, c := range calls {
			for of, e := range errs(t, x, c) {
				if e != api.ErrNil {
					t.Error(name, of, c, e)
				}
			}
		}
		for rd, r := range x.All() {
			t.Error(name, "All", rd, r)
		}
		for _, i := range []uint64{0, 1, 2, math.MaxUint64} {
			if rd, is := x.Find(i); rd != 0 || is {
				t.Error(name, "Find", i, rd, is)
			}
		}
		for with, o := range map[string]*oracle.Oracle{"one": oracle.New(true, api.Digest{}), "none": nil, "a zero one": {}} {
			if c := x.Copy(o); c != nil {
				t.Error(name, "Copy with", with, c)
			}
		}
	}
}

func TestOfNoOracle(t *testing.T) {
	if realm.New(nil) != nil || realm.New(&oracle.Oracle{}) != nil {
		t.Error("New of no oracle")
	}
	inModes(t, func(b *bench) {
		peopled(b)
		if b.x.Copy(nil) != nil || b.x.Copy(&oracle.Oracle{}) != nil {
			b.t.Error("Copy with no oracle")
		}
		b.holds()
	})
}

// A zero one that was called, and refused, is still none.
func TestZeroStaysNone(t *testing.T) {
	var x realm.Realms
	for range 2 {
		errs(t, &x, call{rd: 3, root: 4})
		if x.Copy(oracle.New(false, api.Digest{})) != nil || len(allOf(&x)) != 0 {
			t.Error("there is something now")
		}
	}
}

// Where there is no realm, all calls but Create say so, and change nothing; a descriptor below 0 has none.
func TestNoRealmThere(t *testing.T) {
	inModes(t, func(b *bench) {
		peopled(b)
		for _, rd := range []int{0, 1, 3, 4, 7, 9, math.MaxInt, -1, -2, -8, math.MinInt} {
			b.want(b.data(rd, 0, page(1)), api.ErrNone)
			b.want(b.data(rd, 127, page(1)), api.ErrNone)
			b.want(b.addRec(rd, vcpu(8, true)), api.ErrNone)
			b.want(b.dropRec(rd), api.ErrNone)
			b.want(b.activate(rd), api.ErrNone)
			b.want(b.kill(rd), api.ErrNone)
			b.want(b.setTree(rd, digest(1)), api.ErrNone)
			b.want(b.drop(rd), api.ErrNone)
			if n, e := b.next(rd); n != 0 || e != api.ErrNone {
				b.t.Error(n, e)
			}
			if r, e := b.x.Get(rd); e != api.ErrNone || !reflect.DeepEqual(r, api.Realm{}) {
				b.t.Error(r, e)
			}
		}
	})
}

// A descriptor below 0, a root below 0, both; ahead of a realm that is there already.
func TestCreateRefuses(t *testing.T) {
	inModes(t, func(b *bench) {
		peopled(b)
		p := api.RealmParams{Value: digest(70), Nodes: 128}
		for _, low := range []int{-1, -2, -8, math.MinInt32, math.MinInt} {
			for _, c := range [][2]int{{low, 4}, {low, 0}, {0, low}, {1, low}, {low, low}, {8, low}, {2, low}, {math.MaxInt, low}, {low, math.MaxInt}} {
				if r, e := b.create(c[0], c[1], p, digest(1)); e != api.ErrArg || !reflect.DeepEqual(r, api.Realm{}) {
					b.t.Error(c, r, e)
				}
			}
		}
		for _, rd := range []int{8, 2, 5} {
			for _, root := range []int{0, 3, rd, rd + 1, math.MaxInt} {
				if r, e := b.create(rd, root, p, digest(1)); e != api.ErrState || !reflect.DeepEqual(r, api.Realm{}) {
					b.t.Error(rd, root, r, e)
				}
			}
		}
		if r := b.made(3); r.Instance != 5 {
			b.t.Error("an instance was used up", r.Instance)
		}
	})
}

// A page that is none, ahead of no realm there, and of another state.
func TestDataRefuses(t *testing.T) {
	inModes(t, func(b *bench) {
		peopled(b) // 2 is New, 5 Active, 8 Dead, 3 gone
		for _, at := range []int{-1, -2, -128, math.MinInt, 128, 129, 255, 256, 1 << 32, 1<<32 + 1, math.MaxInt} {
			for _, rd := range []int{2, 5, 8, 3, -1, math.MaxInt} {
				b.want(b.data(rd, at, page(1)), api.ErrArg)
			}
		}
		for _, at := range []int{0, 127} {
			b.want(b.data(3, at, page(1)), api.ErrNone)
			b.want(b.data(-1, at, page(1)), api.ErrNone)
			b.want(b.data(5, at, page(1)), api.ErrState)
			b.want(b.data(8, at, page(1)), api.ErrState)
			b.want(b.data(2, at, page(1)), api.OK)
		}
	})
}

// AddRec tells no realm there, and another state, ahead of parameters that may not be.
func TestAddRecsOrder(t *testing.T) {
	inModes(t, func(b *bench) {
		peopled(b)
		for _, pc := range []uint64{1, 2, 4, 7, 12, 1<<63 + 4, math.MaxUint64} {
			b.want(b.addRec(3, vcpu(pc, true)), api.ErrNone)
			b.want(b.addRec(-1, vcpu(pc, true)), api.ErrNone)
			b.want(b.addRec(5, vcpu(pc, true)), api.ErrState)
			b.want(b.addRec(8, vcpu(pc, true)), api.ErrState)
			b.want(b.addRec(2, vcpu(pc, true)), api.ErrArg)
		}
		b.want(b.addRec(5, vcpu(8, true)), api.ErrState)
		b.want(b.addRec(2, vcpu(8, true)), api.OK)
	})
}

// spoil writes over all of a Log, and over what lies behind it.
func spoil(l []api.Record) {
	for i := range l {
		l[i] = api.Record{Kind: 9, Value: digest(200), Page: -7, Data: page(200), Rec: vcpu(3, true)}
	}
	l = l[:cap(l)]
	for i := range l {
		l[i].Kind = 77
	}
	_ = append(l, api.Record{Kind: 8})
}

// What a caller does to a Log that it was told is not seen: by the realms, by a copy, or by what goes over them.
func TestLogsAreTheCallers(t *testing.T) {
	inModes(t, func(b *bench) {
		for i := range 10 {
			r := b.made(i)
			spoil(r.Log)
			b.holds("Create's Log", i)
			for j := range i {
				b.want(b.data(i, j, page(byte(j))), api.OK)
				spoil(b.get(i).Log)
				b.holds("Get's Log", i, j)
			}
		}
		all, was := b.x.All(), allOf(b.x)
		c := b.copied(b.o, b.m.o)
		for range 2 {
			i := 0
			for rd, r := range all {
				if !reflect.DeepEqual(item{rd, r}, was[i]) {
					b.t.Fatal("a pass sees what another one's caller wrote", r, was[i])
				}
				spoil(r.Log)
				i++
			}
		}
		b.holds("All's Logs")
		c.holds("a copy's, behind All's Logs")
		for rd := range maps.Keys(c.m.realms) {
			spoil(c.get(rd).Log)
			c.want(c.data(rd, 9, page(9)), api.OK)
		}
		b.holds("a copy's Logs")
	})
}

// What was told stays as it was, whatever is done to the realms behind it.
func TestWhatWasToldStays(t *testing.T) {
	inModes(t, func(b *bench) {
		made := b.made(3)
		had := b.get(3)
		var gone api.Realm
		for _, r := range b.x.All() {
			gone = r
		}
		want := had
		want.Log = slices.Clone(had.Log)
		for i := range 6 {
			b.want(b.data(3, i, page(byte(i))), api.OK)
		}
		b.next(3)
		b.want(b.kill(3), api.OK)
		b.want(b.drop(3), api.OK)
		b.made(3)
		for _, r := range []api.Realm{made, had, gone} {
			if !reflect.DeepEqual(r, want) {
				b.t.Error(r, want)
			}
		}
	})
}

// What is answered hangs on what was done alone: the same, done twice, is the same.
func TestNothingElseIsHungOn(t *testing.T) {
	inModes(t, func(b *bench) {
		peopled(b)
		work(b)
		for range 5 {
			c := fresh(b.t, b.m.o.mode)
			peopled(c)
			work(c)
			if !reflect.DeepEqual(allOf(b.x), allOf(c.x)) || !reflect.DeepEqual(b.o.Log(), c.o.Log()) {
				b.t.Fatal("not the same")
			}
		}
	})
}
