package measure_test

import (
	"crypto/sha256"
	"encoding/hex"
	"math"
	"reflect"
	"slices"
	"testing"

	"anchorite/api"
	"anchorite/measure"
	"anchorite/oracle"
	"anchorite/realm"
)

// full is a digest, fullPage a page, whose bytes are all 255.
func full() api.Digest { return api.Digest(slices.Repeat([]byte{255}, 32)) }

func fullPage() api.Granule { return api.Granule(slices.Repeat([]byte{255}, 128)) }

// digests are noughts, bytes that all differ, the greatest, and such with one byte at an end.
func digests() []api.Digest {
	return []api.Digest{{}, digest(0), full(), {0: 1}, {31: 1}}
}

// pages are the like.
func pages() []api.Granule {
	return []api.Granule{{}, page(0), fullPage(), {0: 1}, {127: 1}}
}

// rightPCs may be: at their bounds, and at those of smaller numbers.
func rightPCs() []uint64 {
	return []uint64{0, 8, 16, 248, 256, 32760, 32768, 1 << 32, 1<<32 + 8, 1 << 63, math.MaxInt64 - 7, math.MaxUint64 - 7}
}

// rightRecs are parameters that may be: each PC, with noughts, with registers that all differ, with one by itself, with the greatest.
func rightRecs() []api.RecParams {
	most := [8]uint64(slices.Repeat([]uint64{math.MaxUint64}, 8))
	regs := [][8]uint64{{}, vcpu(8, true).Regs, most}
	for i := range 8 {
		var one [8]uint64
		one[i] = 0x0102030405060708
		regs = append(regs, one)
	}
	var out []api.RecParams
	for _, pc := range rightPCs() {
		for _, r := range regs {
			out = append(out, api.RecParams{PC: pc, Regs: r}, api.RecParams{PC: pc, Regs: r, Runnable: true})
		}
	}
	return out
}

// rightLists may be: of one record, of each kind behind the first, of many.
func rightLists() [][]api.Record {
	var out [][]api.Record
	for _, v := range digests() {
		out = append(out, []api.Record{ofRealm(v)})
	}
	first := ofRealm(digest(1))
	for _, g := range pages() {
		out = append(out, []api.Record{first, ofData(0, g)}, []api.Record{first, ofData(127, g)})
	}
	for _, p := range rightRecs()[:12] {
		out = append(out, []api.Record{first, ofRec(p)})
	}
	return append(out,
		[]api.Record{first, ofData(3, page(1)), ofRec(vcpu(8, true))},
		[]api.Record{first, ofRec(vcpu(8, true)), ofData(3, page(1))},
		[]api.Record{first, ofData(3, page(1)), ofData(3, page(1)), ofData(3, page(2))},
		[]api.Record{first, ofRec(api.RecParams{}), ofRec(api.RecParams{}), ofData(0, api.Granule{})},
		many())
}

// many is a list of each page, with vCPUs between them.
func many() []api.Record {
	out := []api.Record{ofRealm(digest(7))}
	for i := range api.Open {
		out = append(out, ofData(i, page(byte(i))))
		if i%5 == 0 {
			out = append(out, ofRec(vcpu(8*uint64(i), i%2 == 0)))
		}
	}
	return out
}

func sum(parts ...[]byte) api.Digest { return sha256.Sum256(slices.Concat(parts...)) }

// The chapter's examples, with draws as there, and in each mode.
func TestExamples(t *testing.T) {
	first, second := digest(20), digest(21)
	o := oracle.New(true, api.Digest{}, first, second)
	if m, e := measure.Begin(o, api.RealmParams{Value: digest(1)}); m != first || e != api.OK {
		t.Error("Begin", m, e)
	}
	if m, e := measure.Data(o, first, 3, api.Granule{}); m != second || e != api.OK {
		t.Error("Data", m, e)
	}
	if m, e := measure.Data(o, first, 128, api.Granule{}); m != (api.Digest{}) || e != api.ErrArg {
		t.Error("Data, 128", m, e)
	}
	inModes(t, modes(), func(b *bench) {
		m := b.right(b.begin(api.RealmParams{Value: digest(1)}))
		b.right(b.data(m, 3, api.Granule{}))
		b.wrong(b.data(m, 128, api.Granule{}), api.ErrArg)
		b.wrong(b.replay(), api.ErrArg)
		b.wrong(b.replay(ofData(3, page(1))), api.ErrArg)
	})
}

// P12.1

// asks says that the oracle was asked this one question.
func asks(t *testing.T, o *oracle.Oracle, d api.Domain, data ...[]byte) {
	t.Helper()
	l := o.Log()
	want := api.Question{Kind: api.QDigest, Domain: d, Data: slices.Concat(data...)}
	if len(l) != 1 || !reflect.DeepEqual(l[0].Question, want) {
		t.Fatalf("asked %v; not %v", l, want)
	}
}

func TestBegin(t *testing.T) {
	inModes(t, modes(), func(b *bench) {
		for _, v := range digests() {
			b.right(b.begin(api.RealmParams{Value: v, Nodes: 128}))
			c := fresh(b.t, b.a.mode)
			c.right(c.begin(api.RealmParams{Value: v}))
			asks(c.t, c.o, api.DomParams, v[:])
		}
	})
}

// Nodes that may not be are as any others: the same question, asked once.
func TestBeginAsksNoNodes(t *testing.T) {
	inModes(t, modes(), func(b *bench) {
		first := b.right(b.begin(api.RealmParams{Value: digest(3)}))
		for _, n := range []uint64{0, 1, 100, 128, 4032 * 128, 4033 * 128, 1 << 63, math.MaxUint64} {
			if m := b.right(b.begin(api.RealmParams{Value: digest(3), Nodes: n})); m != first {
				b.t.Error(n, m, first)
			}
		}
		if len(b.o.Log()) != 1 {
			b.t.Error(b.o.Log())
		}
	})
}

func TestData(t *testing.T) {
	inModes(t, modes(), func(b *bench) {
		for _, m := range digests() {
			for _, g := range pages() {
				for _, at := range []int{0, 1, 64, 126, 127} {
					b.right(b.data(m, at, g))
					c := fresh(b.t, b.a.mode)
					c.right(c.data(m, at, g))
					asks(c.t, c.o, api.DomData, m[:], []byte{byte(at), 0, 0, 0, 0, 0, 0, 0}, g[:])
				}
			}
		}
	})
}

// Each page by itself, and none as another one.
func TestDataOfEachPage(t *testing.T) {
	inModes(t, distinctModes(), func(b *bench) {
		seen := map[api.Digest]int{}
		for at := range api.Open {
			m := b.right(b.data(digest(1), at, page(1)))
			if was, is := seen[m]; is {
				b.t.Error(at, "is as", was)
			}
			seen[m] = at
		}
	})
}

func TestRec(t *testing.T) {
	inModes(t, modes(), func(b *bench) {
		for i, p := range rightRecs() {
			m := digests()[i%len(digests())]
			b.right(b.rec(m, p))
			c := fresh(b.t, b.a.mode)
			c.right(c.rec(m, p))
			asks(c.t, c.o, api.DomRec, m[:], recBytes(p))
		}
	})
}

// A vCPU's bytes, written out.
func TestRecsBytes(t *testing.T) {
	o := oracle.New(true, api.Digest{})
	p := api.RecParams{PC: 0x1122334455667788, Runnable: true}
	p.Regs[0], p.Regs[7] = 0x0102030405060708, 255
	b := make([]byte, 128)
	copy(b, []byte{'r', 'e', 'c', 0, 0, 0, 0, 0, 0x88, 0x77, 0x66, 0x55, 0x44, 0x33, 0x22, 0x11, 8, 7, 6, 5, 4, 3, 2, 1})
	b[72], b[80] = 255, 1
	m := digest(4)
	if _, e := measure.Rec(o, m, p); e != api.OK {
		t.Error(e)
	}
	asks(t, o, api.DomRec, m[:], b)
}

// Next is Data's, or Rec's: the same question, and so no draw more.
func TestNext(t *testing.T) {
	inModes(t, modes(), func(b *bench) {
		for _, m := range digests() {
			for _, g := range pages() {
				for _, at := range []int{0, 1, 126, 127} {
					if got, want := b.right(b.next(m, ofData(at, g))), b.right(b.data(m, at, g)); got != want {
						b.t.Error(at, got, want)
					}
				}
			}
		}
		for i, p := range rightRecs() {
			m := digests()[i%len(digests())]
			if got, want := b.right(b.next(m, ofRec(p))), b.right(b.rec(m, p)); got != want {
				b.t.Error(p, got, want)
			}
		}
	})
}

// Numbers that were reckoned by another program: the model and this one may not err together.
func TestMeasuredElsewhere(t *testing.T) {
	o := oracle.New(false, digest(1))
	is := func(x answer, want string) api.Digest {
		t.Helper()
		if x.e != api.OK || hex.EncodeToString(x.m[:]) != want {
			t.Fatalf("%x, %d; not %s", x.m, x.e, want)
		}
		return x.m
	}
	const last = "4f6449a74a69a81953f77bf7ab6542d7410fe03d7f69988d2b6f20c828e20df6"
	is(answered(measure.Begin(o, api.RealmParams{})), "22e5d5a8bf3858d54368d89d2627de91f142547a32fbc8b612e65838458d1545")
	m := is(answered(measure.Begin(o, api.RealmParams{Value: digest(0)})), "3c87f74135311f714b7d00b18eb9234e54790c4b2d880cd3cffebbef13cd5546")
	m = is(answered(measure.Data(o, m, 3, page(0))), "ddbe388767bb881e92912825a3ef83fb0e95dc97b1c3b9b4b1eb9c82c3b60da2")
	is(answered(measure.Rec(o, m, vcpu(8, true))), last)
	is(answered(measure.Next(o, m, ofRec(vcpu(8, true)))), last)
	is(answered(measure.Replay(o, []api.Record{ofRealm(digest(0)), ofData(3, page(0)), ofRec(vcpu(8, true))})), last)
}

// What is measured in concrete mode, byte by byte, by the library.
func TestMeasuredByHand(t *testing.T) {
	o := oracle.New(false, digest(1))
	none, value, g := make([]byte, 32), digest(5), page(3)
	m := sum([]byte{1}, none, []byte{1}, value[:])
	l := []api.Record{ofRealm(value)}
	is := func() {
		t.Helper()
		if got, e := measure.Replay(o, l); got != m || e != api.OK {
			t.Error(got, e, "not", m)
		}
	}
	is()
	m = sum([]byte{1}, none, []byte{2}, m[:], []byte{127, 0, 0, 0, 0, 0, 0, 0}, g[:])
	l = append(l, ofData(127, g))
	is()
	m = sum([]byte{1}, none, []byte{3}, m[:], []byte("rec\x00\x00\x00\x00\x00"), make([]byte, 120))
	l = append(l, ofRec(api.RecParams{}))
	is()
	m = sum([]byte{1}, none, []byte{2}, m[:], make([]byte, 8), make([]byte, 128))
	l = append(l, ofData(0, api.Granule{}))
	is()
}

// What was asked already has the answer that it had, by whichever call it is asked again: no draw is had for it.
func TestAskedAgain(t *testing.T) {
	inModes(t, modes(), func(b *bench) {
		p := vcpu(16, true)
		l := []api.Record{ofRealm(digest(1)), ofData(3, page(1)), ofRec(p)}
		all := b.right(b.replay(l...))
		for range 2 {
			m := b.right(b.begin(api.RealmParams{Value: digest(1), Nodes: 77}))
			m = b.right(b.data(m, 3, page(1)))
			if last := b.right(b.rec(m, p)); last != all {
				b.t.Error(last, all)
			}
			if last := b.right(b.next(m, l[2])); last != all {
				b.t.Error(last, all)
			}
			if again := b.right(b.replay(l...)); again != all {
				b.t.Error(again, all)
			}
		}
		if len(b.o.Log()) != 3 {
			b.t.Error(b.o.Log())
		}
	})
}

// Draws are had in the order of the records; behind the list's end they tell their numbers.
func TestDrawsInOrder(t *testing.T) {
	draws := []api.Digest{digest(30), digest(31), digest(32)}
	o := oracle.New(true, digest(1), draws...)
	l := []api.Record{ofRealm(digest(1))}
	for i := range 5 {
		want := api.Digest{0: byte(i), 31: 1}
		if i < len(draws) {
			want = draws[i]
		}
		if m, e := measure.Replay(o, l); m != want || e != api.OK || o.Used() != i+1 {
			t.Error(i, m, e, o.Used())
		}
		l = append(l, ofData(i, page(1)))
	}
}

// P12.2

func TestMay(t *testing.T) {
	var right []api.Record
	for _, v := range digests() {
		right = append(right, ofRealm(v))
	}
	for _, g := range pages() {
		for at := range api.Open {
			right = append(right, ofData(at, g))
		}
	}
	for _, p := range rightRecs() {
		right = append(right, ofRec(p))
	}
	for _, r := range right {
		if !measure.May(r) || !may(r) {
			t.Error(r)
		}
	}
}

func TestMayAll(t *testing.T) {
	for _, l := range rightLists() {
		if !measure.MayAll(l...) || !mayAll(l) {
			t.Error(l)
		}
	}
}

func TestReplay(t *testing.T) {
	inModes(t, modes(), func(b *bench) {
		for _, l := range rightLists() {
			b.right(b.replay(l...))
			c := fresh(b.t, b.a.mode)
			c.right(c.replay(l...))
		}
	})
}

// A list of one record is what Begin says of its Value.
func TestReplayOfOne(t *testing.T) {
	inModes(t, modes(), func(b *bench) {
		for _, v := range digests() {
			if got, want := b.right(b.replay(ofRealm(v))), b.right(b.begin(api.RealmParams{Value: v, Nodes: 128})); got != want {
				b.t.Error(got, want)
			}
		}
	})
}

// Some thousands, each of which is asked.
func TestReplayOfVeryMany(t *testing.T) {
	b := fresh(t, mode{"ideal", true, digest(1), nil})
	l := slices.Concat(many(), slices.Repeat(many()[1:], 19))
	b.right(b.replay(l...))
	if b.o.Used() != len(l) {
		t.Error(b.o.Used(), len(l))
	}
}

func same(t *testing.T, a, b []api.Record, want bool) {
	t.Helper()
	if measure.Same(a, b) != want || measure.Same(b, a) != want {
		t.Errorf("Same(%v, %v): not %v", a, b, want)
	}
}

func TestSame(t *testing.T) {
	same(t, nil, nil, true)
	same(t, nil, []api.Record{}, true)
	same(t, []api.Record{}, []api.Record{}, true)
	same(t, nil, make([]api.Record, 1), false)
	for i, a := range rightLists() {
		same(t, a, slices.Clone(a), true)
		same(t, a, nil, false)
		for j, b := range rightLists() {
			same(t, a, b, i == j)
		}
	}
}

// What lies behind a list's end is none of it, nor is where it lies.
func TestSameAsksNoCapacity(t *testing.T) {
	l := many()
	long := append(slices.Clone(l[:3]), ofRealm(digest(99)))
	same(t, l[:3], long[:3], true)
	same(t, l[:3], slices.Clip(slices.Clone(l[:3])), true)
	same(t, l[:3], long, false)
}

// Records that may not be are the same, or not, as others are.
func TestSameOfWrongRecords(t *testing.T) {
	whole := api.Record{Kind: 9, Value: digest(1), Page: -7, Data: page(1), Rec: vcpu(3, true)}
	same(t, []api.Record{whole}, []api.Record{whole}, true)
	for i, r := range turned(whole) {
		same(t, []api.Record{whole}, []api.Record{r}, false)
		same(t, []api.Record{r}, []api.Record{turned(whole)[i]}, true)
	}
	same(t, []api.Record{{}}, []api.Record{{}}, true)
	same(t, []api.Record{{}}, []api.Record{{}, {}}, false)
}

// turned are all records that differ from r in one bit, of each of its bytes and numbers.
func turned(r api.Record) []api.Record {
	var out []api.Record
	turn := func(do func(x *api.Record)) {
		x := r
		do(&x)
		out = append(out, x)
	}
	for i := range 63 {
		turn(func(x *api.Record) { x.Kind ^= 1 << i })
		turn(func(x *api.Record) { x.Page ^= 1 << i })
	}
	turn(func(x *api.Record) { x.Kind ^= math.MinInt })
	turn(func(x *api.Record) { x.Page ^= math.MinInt })
	for i := range len(r.Value) {
		turn(func(x *api.Record) { x.Value[i] ^= 1 << (i % 8) })
	}
	for i := range len(r.Data) {
		turn(func(x *api.Record) { x.Data[i] ^= 1 << (i % 8) })
	}
	for i := range 64 {
		turn(func(x *api.Record) { x.Rec.PC ^= 1 << i })
		for j := range len(r.Rec.Regs) {
			turn(func(x *api.Record) { x.Rec.Regs[j] ^= 1 << i })
		}
	}
	turn(func(x *api.Record) { x.Rec.Runnable = !x.Rec.Runnable })
	return out
}

// P12.3

// Replay of a list is Next of its last record behind Replay of the others, whichever of them is asked first.
func TestReplayIsNextBehindReplay(t *testing.T) {
	inModes(t, modes(), func(b *bench) {
		for _, l := range rightLists() {
			for n := 2; n <= len(l); n += 1 + n/6 {
				c := fresh(b.t, b.a.mode)
				whole := c.right(c.replay(l[:n]...))
				behind := c.right(c.next(c.right(c.replay(l[:n-1]...)), l[n-1]))
				d := fresh(b.t, b.a.mode)
				first := d.right(d.next(d.right(d.replay(l[:n-1]...)), l[n-1]))
				if whole != behind || whole != first || whole != d.right(d.replay(l[:n]...)) {
					b.t.Fatal(n, whole, behind, first)
				}
			}
		}
	})
}

// listsOf are all lists that may be, of these records, of up to so many behind a first one.
func listsOf(firsts, others []api.Record, most int) [][]api.Record {
	var out, longest [][]api.Record
	for _, r := range firsts {
		longest = append(longest, []api.Record{r})
	}
	for range most {
		out = append(out, longest...)
		var longer [][]api.Record
		for _, l := range longest {
			for _, r := range others {
				longer = append(longer, append(slices.Clone(l), r))
			}
		}
		longest = longer
	}
	return append(out, longest...)
}

// unlike says that no two of these lists, of which no two are the same, have one measurement.
func (b *bench) unlike(l [][]api.Record) {
	b.t.Helper()
	seen := map[api.Digest]int{}
	for i := range l {
		m, e := measure.Replay(b.o, l[i])
		if e != api.OK {
			b.t.Fatal(l[i], e)
		}
		if was, is := seen[m]; is {
			b.t.Fatal("one measurement", l[i], l[was])
		}
		seen[m] = i
	}
}

// All lists of a few records that are nearly alike: no two have one measurement.
func TestUnlikeLists(t *testing.T) {
	firsts := []api.Record{ofRealm(api.Digest{}), ofRealm(digest(1))}
	others := []api.Record{
		ofData(0, api.Granule{}), ofData(1, api.Granule{}), ofData(0, api.Granule{127: 1}),
		ofRec(api.RecParams{}), ofRec(api.RecParams{Runnable: true}), ofRec(api.RecParams{PC: 8}),
		// A page with a vCPU's bytes is another record yet.
		ofData(0, api.Granule(recBytes(api.RecParams{}))),
	}
	inModes(t, distinctModes(), func(b *bench) { b.unlike(listsOf(firsts, others, 3)) })
}

// Lists that differ in one bit of one record, in one record's place, or in their length.
func TestListsThatDifferInOneThing(t *testing.T) {
	l := []api.Record{ofRealm(digest(1)), ofData(3, page(1)), ofRec(vcpu(8, true)), ofData(3, page(2)), ofRec(vcpu(16, false))}
	all := [][]api.Record{l}
	for i := range l {
		for _, r := range turned(l[i]) {
			x := slices.Clone(l)
			x[i] = r
			if mayAll(x) {
				all = append(all, x)
			}
		}
		for j := i + 1; i > 0 && j < len(l); j++ {
			x := slices.Clone(l)
			x[i], x[j] = x[j], x[i]
			all = append(all, x)
		}
		if i > 0 {
			all = append(all, l[:i], slices.Insert(slices.Clone(l), i, l[i]))
		}
	}
	for i := range all {
		same(t, all[i], l, i == 0)
	}
	inModes(t, distinctModes(), func(b *bench) { b.unlike(all) })
}

// Where draws are alike, unlike lists may have one measurement: nothing but what is drawn is told.
func TestDrawsAlike(t *testing.T) {
	b := fresh(t, modes()[4])
	for _, l := range listsOf([]api.Record{ofRealm(digest(1))}, []api.Record{ofData(0, page(1)), ofRec(vcpu(8, true))}, 3) {
		if m := b.right(b.replay(l...)); m != digest(9) {
			t.Error(l, m)
		}
	}
	// Behind one measurement there are but two records here: two questions, and the first.
	if b.o.Used() != 3 {
		t.Error(b.o.Used())
	}
}

// P11.6, P12.3: what a realm's Log comes to is its measurement.
func TestRealmsLog(t *testing.T) {
	inModes(t, modes(), func(b *bench) {
		x := realm.New(b.o)
		x.Create(3, 4, api.RealmParams{Value: digest(1), Nodes: 128}, digest(2))
		for i := range 20 {
			x.Data(3, 127-i, page(byte(i)))
			x.AddRec(3, vcpu(8*uint64(i), i%2 == 0))
			r, e := x.Get(3)
			if e != api.OK || !measure.MayAll(r.Log...) {
				b.t.Fatal(r, e)
			}
			asked := len(b.o.Log())
			if m, e := measure.Replay(b.o, r.Log); m != r.Measure || e != api.OK {
				b.t.Fatal(m, e, r.Measure)
			}
			if len(b.o.Log()) != asked {
				b.t.Fatal("asked something that the realm was not measured by")
			}
		}
	})
}
