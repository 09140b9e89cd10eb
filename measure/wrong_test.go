package measure_test

import (
	"math"
	"slices"
	"testing"

	"anchorite/api"
	"anchorite/measure"
	"anchorite/oracle"
)

// nones are oracles that are not there, and zero ones.
func nones() map[string]*oracle.Oracle {
	emptied := oracle.New(true, digest(1), digest(2))
	measure.Begin(emptied, api.RealmParams{})
	*emptied = oracle.Oracle{}
	var none *oracle.Oracle
	return map[string]*oracle.Oracle{
		"nil":              nil,
		"a copy of none":   none.Copy(),
		"zero":             {},
		"new":              new(oracle.Oracle),
		"emptied":          emptied,
		"a copy of a zero": new(oracle.Oracle).Copy(),
	}
}

// wrongPages are none; wrongPCs may not be.
func wrongPages() []int {
	return []int{-1, -2, -127, -128, math.MinInt32, math.MinInt, 128, 129, 255, 256, 1 << 32, 1<<32 + 1, 1 << 62, math.MaxInt}
}

func wrongPCs() []uint64 {
	out := []uint64{2, 3, 4, 5, 6, 12, 100, 1<<32 + 4, 1<<63 + 4, math.MaxUint64 - 3}
	for _, pc := range rightPCs() {
		out = append(out, pc+1, pc-1) // of 0: the greatest that there is
	}
	return out
}

// wrongKinds are none.
func wrongKinds() []api.RecordKind {
	return []api.RecordKind{0, -1, -2, -3, 4, 5, 255, 256, 257, 1<<32 + 1, 1<<32 + 2, 1<<32 + 3, math.MinInt, math.MaxInt}
}

// parts are records with one part each: of noughts but in one place, and whole.
func parts() []api.Record {
	out := []api.Record{
		{Value: digest(1)}, {Value: full()}, {Data: page(1)}, {Data: fullPage()},
		{Page: 1}, {Page: 127}, {Page: 128}, {Page: -1}, {Page: math.MaxInt}, {Page: math.MinInt},
		{Rec: vcpu(8, true)}, {Rec: vcpu(7, true)}, {Rec: api.RecParams{Runnable: true}},
		{Rec: api.RecParams{PC: 8}}, {Rec: api.RecParams{PC: 4}}, {Rec: api.RecParams{PC: math.MaxUint64}},
	}
	for i := range 32 {
		var r api.Record
		r.Value[i] = 1
		out = append(out, r)
	}
	for i := range api.GranuleSize {
		var r api.Record
		r.Data[i] = 128
		out = append(out, r)
	}
	for i := range 8 {
		var low, high api.Record
		low.Rec.Regs[i], high.Rec.Regs[i] = 1, 1<<63
		out = append(out, low, high)
	}
	return out
}

// with is r with what a part has beside.
func with(r, part api.Record) api.Record {
	if part.Value != (api.Digest{}) {
		r.Value = part.Value
	}
	if part.Page != 0 {
		r.Page = part.Page
	}
	if part.Data != (api.Granule{}) {
		r.Data = part.Data
	}
	if part.Rec != (api.RecParams{}) {
		r.Rec = part.Rec
	}
	return r
}

// named says whether a kind names that part.
func named(k api.RecordKind, part api.Record) bool {
	switch k {
	case api.RecordRealm:
		return part.Value != api.Digest{}
	case api.RecordData:
		return part.Page != 0 || part.Data != api.Granule{}
	}
	return part.Rec != api.RecParams{}
}

// wrongRecords may not be: for one reason each, and for several.
func wrongRecords() []api.Record {
	var out []api.Record
	for _, k := range wrongKinds() {
		out = append(out, api.Record{Kind: k})
		for _, p := range parts()[:16] {
			out = append(out, with(api.Record{Kind: k}, p))
		}
	}
	for _, at := range wrongPages() {
		out = append(out, ofData(at, api.Granule{}), ofData(at, page(1)))
	}
	for _, pc := range wrongPCs() {
		out = append(out, ofRec(api.RecParams{PC: pc}), ofRec(vcpu(pc, true)))
	}
	rights := []api.Record{
		ofRealm(api.Digest{}), ofRealm(digest(3)), ofData(0, api.Granule{}), ofData(127, page(3)),
		ofRec(api.RecParams{}), ofRec(vcpu(16, true)),
	}
	for _, r := range rights {
		for _, p := range parts() {
			if !named(r.Kind, p) {
				out = append(out, with(r, p))
			}
		}
	}
	return append(out,
		api.Record{Kind: 1, Value: digest(1), Page: -1, Data: page(1), Rec: vcpu(3, true)},
		api.Record{Kind: 2, Value: digest(1), Page: 128, Data: page(1), Rec: vcpu(3, true)},
		api.Record{Kind: 3, Value: digest(1), Page: 128, Data: page(1), Rec: vcpu(3, true)},
		api.Record{Kind: 4, Value: digest(1), Page: 128, Data: page(1), Rec: vcpu(3, true)})
}

// wrongLists may not be.
func wrongLists() [][]api.Record {
	first, data, rec := ofRealm(digest(1)), ofData(3, page(1)), ofRec(vcpu(8, true))
	out := [][]api.Record{
		nil, {}, many()[:0],
		{data}, {rec}, {data, first}, {rec, first}, {data, rec}, {rec, data}, {data, first, data},
		{first, first}, {first, ofRealm(digest(2))}, {first, data, first}, {first, first, data}, {first, data, rec, first},
		append(many(), first), append(many(), many()...), many()[1:],
		{{}}, {{}, first}, {first, {}}, {first, {}, data},
	}
	for i, r := range wrongRecords() {
		out = append(out, []api.Record{r}, []api.Record{first, r}, []api.Record{first, r, rec}, []api.Record{first, data, r})
		if i%40 == 0 {
			out = append(out, append(many(), r), []api.Record{r, first}, []api.Record{data, r}, []api.Record{first, r, first})
		}
	}
	return out
}

// ErrNil is told ahead of all, with arguments that are right, and wrong in each way.
func TestNoOracle(t *testing.T) {
	for name, o := range nones() {
		refused := func(x answer, what ...any) {
			t.Helper()
			if x != (answer{api.Digest{}, api.ErrNil}) {
				t.Error(name, what, x)
			}
		}
		for _, v := range digests() {
			refused(answered(measure.Begin(o, api.RealmParams{Value: v})), "Begin", v)
			refused(answered(measure.Begin(o, api.RealmParams{Value: v, Nodes: 100})), "Begin", v)
		}
		for _, at := range append(wrongPages(), 0, 127) {
			refused(answered(measure.Data(o, digest(1), at, page(1))), "Data", at)
		}
		for _, pc := range append(wrongPCs(), rightPCs()...) {
			refused(answered(measure.Rec(o, digest(1), vcpu(pc, true))), "Rec", pc)
		}
		for _, r := range append(wrongRecords(), many()...) {
			refused(answered(measure.Next(o, digest(1), r)), "Next", r)
		}
		for _, l := range append(wrongLists(), rightLists()...) {
			refused(answered(measure.Replay(o, l)), "Replay", l)
		}
		if len(o.Log()) != 0 || o.Ideal() || o.Used() != 0 {
			t.Error(name, "there is something now")
		}
	}
}

// asksNothing says that what a test does with an oracle leaves no question, and no draw, behind; also where something was asked ahead of it.
func asksNothing(t *testing.T, test func(b *bench)) {
	inModes(t, modes(), func(b *bench) {
		test(b)
		if len(b.o.Log()) != 0 || b.o.Used() != 0 {
			b.t.Fatal("asked", b.o.Log())
		}
		c := fresh(b.t, b.a.mode)
		c.right(c.replay(ofRealm(digest(1)), ofData(3, page(1)), ofRec(vcpu(8, true))))
		asked, used := len(c.o.Log()), c.o.Used()
		test(c)
		if len(c.o.Log()) != asked || c.o.Used() != used {
			c.t.Fatal("asked", c.o.Log())
		}
		// The next draw is the one that it would have been.
		c.right(c.data(digest(77), 5, page(5)))
	})
}

func TestDataRefuses(t *testing.T) {
	asksNothing(t, func(b *bench) {
		for _, at := range wrongPages() {
			for _, m := range digests() {
				b.wrong(b.data(m, at, api.Granule{}), api.ErrArg)
				b.wrong(b.data(m, at, page(1)), api.ErrArg)
			}
		}
	})
}

func TestRecRefuses(t *testing.T) {
	asksNothing(t, func(b *bench) {
		for _, pc := range wrongPCs() {
			for _, runnable := range []bool{false, true} {
				b.wrong(b.rec(digest(1), vcpu(pc, runnable)), api.ErrArg)
				b.wrong(b.rec(api.Digest{}, api.RecParams{PC: pc, Runnable: runnable}), api.ErrArg)
			}
		}
	})
}

// All records that may not be; and that of a realm, which may be, but not behind a measurement.
func TestNextRefuses(t *testing.T) {
	asksNothing(t, func(b *bench) {
		for i, r := range wrongRecords() {
			b.wrong(b.next(digests()[i%len(digests())], r), api.ErrArg)
		}
		for _, v := range digests() {
			for _, m := range digests() {
				b.wrong(b.next(m, ofRealm(v)), api.ErrArg)
			}
		}
	})
}

func TestReplayRefuses(t *testing.T) {
	asksNothing(t, func(b *bench) {
		for _, l := range wrongLists() {
			b.wrong(b.replay(l...), api.ErrArg)
		}
	})
}

func TestMayNot(t *testing.T) {
	for _, r := range wrongRecords() {
		if measure.May(r) || may(r) {
			t.Error(r)
		}
	}
	if measure.May(api.Record{}) {
		t.Error("a zero record")
	}
}

// A wrong record at each place of a list that is right without it.
func TestMayNotAll(t *testing.T) {
	for _, l := range wrongLists() {
		if measure.MayAll(l...) || mayAll(l) {
			t.Error(l)
		}
	}
	if measure.MayAll() {
		t.Error("no record")
	}
	right := []api.Record{ofRealm(digest(1)), ofData(3, page(1)), ofRec(vcpu(8, true)), ofData(4, page(2))}
	for i := range right {
		for _, r := range wrongRecords() {
			l := slices.Clone(right)
			l[i] = r
			if measure.MayAll(l...) {
				t.Error(i, r)
			}
			if measure.MayAll(slices.Insert(slices.Clone(right), i, r)...) {
				t.Error("beside the others", i, r)
			}
		}
	}
}

// What a caller hands in stays as it was, what lies behind a list's end too; also where it is refused.
func TestWhatIsHandedInStays(t *testing.T) {
	inModes(t, modes(), func(b *bench) {
		for _, l := range append(wrongLists(), rightLists()...) {
			long := append(slices.Clone(l), ofRealm(digest(200)), ofData(9, page(200)))
			was := slices.Clone(long)
			short := long[:len(l)]
			measure.Replay(b.o, short)
			measure.MayAll(short...)
			measure.Same(short, l)
			measure.Same(long, short)
			if !slices.Equal(long, was) {
				b.t.Fatal(long, was)
			}
		}
	})
}

// What a caller writes over behind a call is not seen in what was asked, or in what is asked again.
func TestNothingHandedInIsKept(t *testing.T) {
	inModes(t, modes(), func(b *bench) {
		l := many()
		was := slices.Clone(l)
		all := b.right(b.replay(l...))
		for i := range l {
			l[i] = api.Record{Kind: 9, Value: digest(200), Page: -7, Data: page(200), Rec: vcpu(3, true)}
		}
		b.asked("written over")
		if again := b.right(b.replay(was...)); again != all {
			b.t.Error(again, all)
		}
	})
}

// What is answered hangs on what was asked alone: the same, done twice, is the same.
func TestNothingElseIsHungOn(t *testing.T) {
	inModes(t, modes(), func(b *bench) {
		want := b.right(b.replay(many()...))
		for range 10 {
			c := fresh(b.t, b.a.mode)
			if got := c.right(c.replay(many()...)); got != want {
				b.t.Fatal(got, want)
			}
		}
	})
}
