package measure_test

import (
	"bytes"
	"crypto/sha256"
	"encoding/binary"
	"math"
	"math/rand"
	"slices"
	"testing"

	"anchorite/api"
	"anchorite/measure"
	"anchorite/oracle"
)

// digest is 32 bytes that all differ, each by so many more.
func digest(by byte) api.Digest {
	var d api.Digest
	for i := range d {
		d[i] = byte(7*i+3) + by
	}
	return d
}

// page is 128 bytes that all differ, each by so many more.
func page(by byte) api.Granule {
	var g api.Granule
	for i := range g {
		g[i] = byte(5*i+1) + by
	}
	return g
}

// vcpu is a vCPU's parameters, no two of whose registers are alike.
func vcpu(pc uint64, runnable bool) api.RecParams {
	p := api.RecParams{PC: pc, Runnable: runnable}
	for i := range p.Regs {
		p.Regs[i] = pc ^ 0x0102030405060708*uint64(i+1)
	}
	return p
}

// ofRealm, ofData and ofRec are records with just what their kinds name.
func ofRealm(value api.Digest) api.Record { return api.Record{Kind: 1, Value: value} }

func ofData(at int, g api.Granule) api.Record { return api.Record{Kind: 2, Page: at, Data: g} }

func ofRec(p api.RecParams) api.Record { return api.Record{Kind: 3, Rec: p} }

// mode is how an oracle answers, and of what.
type mode struct {
	name   string
	ideal  bool
	master api.Digest
	draws  []api.Digest
}

// modes are both, the ideal one with none but the draws behind a list's end, with draws that run out, and with such as are alike.
func modes() []mode {
	var five []api.Digest
	for i := range 5 {
		five = append(five, digest(byte(40+i)))
	}
	return []mode{
		{"concrete", false, digest(1), nil},
		{"concrete, another master key", false, digest(2), nil},
		{"ideal", true, digest(1), nil},
		{"ideal, five draws", true, digest(2), five},
		{"ideal, draws alike", true, api.Digest{}, slices.Repeat([]api.Digest{digest(9)}, 400)},
	}
}

// distinctModes are those in which no two questions have one answer.
func distinctModes() []mode { return modes()[:4] }

// answerer is what an oracle should answer, and what it should have noted.
type answerer struct {
	mode
	answers map[string]api.Digest
	log     []api.Asked
}

// textOf is a question's text, as layer 5 has it.
func textOf(q api.Question) []byte {
	out := append([]byte{byte(q.Kind)}, q.Key[:]...)
	return append(append(out, byte(q.Domain)), q.Data...)
}

// digest is the answer to a question for a digest.
func (a *answerer) digest(d api.Domain, parts ...[]byte) api.Digest {
	q := api.Question{Kind: 1, Domain: d, Data: slices.Concat(parts...)}
	text := textOf(q)
	if m, is := a.answers[string(text)]; is {
		return m
	}
	var m api.Digest
	switch i := len(a.log); {
	case !a.ideal:
		m = sha256.Sum256(text)
	case i < len(a.draws):
		m = a.draws[i]
	default:
		binary.LittleEndian.PutUint64(m[:], uint64(i))
		m[31] = 1
	}
	a.answers[string(text)] = m
	a.log = append(a.log, api.Asked{Question: q, Answer: m})
	return m
}

// recBytes is a vCPU's parameters' bytes, as layer 10 has them.
func recBytes(p api.RecParams) []byte {
	out := make([]byte, 128)
	copy(out, "rec")
	binary.LittleEndian.PutUint64(out[8:], p.PC)
	for i, r := range p.Regs {
		binary.LittleEndian.PutUint64(out[16+8*i:], r)
	}
	if p.Runnable {
		out[80] = 1
	}
	return out
}

func (a *answerer) begin(value api.Digest) (api.Digest, api.Errno) {
	return a.digest(1, value[:]), api.OK
}

func (a *answerer) data(m api.Digest, at int, g api.Granule) (api.Digest, api.Errno) {
	if at < 0 || at > 127 {
		return api.Digest{}, api.ErrArg
	}
	return a.digest(2, m[:], []byte{byte(at), 0, 0, 0, 0, 0, 0, 0}, g[:]), api.OK
}

func (a *answerer) rec(m api.Digest, p api.RecParams) (api.Digest, api.Errno) {
	if p.PC&7 != 0 {
		return api.Digest{}, api.ErrArg
	}
	return a.digest(3, m[:], recBytes(p)), api.OK
}

func (a *answerer) next(m api.Digest, r api.Record) (api.Digest, api.Errno) {
	switch {
	case !may(r), r.Kind == 1:
		return api.Digest{}, api.ErrArg
	case r.Kind == 2:
		return a.data(m, r.Page, r.Data)
	}
	return a.rec(m, r.Rec)
}

func (a *answerer) replay(l []api.Record) (api.Digest, api.Errno) {
	if !mayAll(l) {
		return api.Digest{}, api.ErrArg
	}
	m, e := a.begin(l[0].Value)
	for _, r := range l[1:] {
		m, e = a.next(m, r)
	}
	return m, e
}

// may is whether a record may be, by the chapter's words: each part by itself.
func may(r api.Record) bool {
	noValue := r.Value == api.Digest{}
	noData := r.Data == api.Granule{}
	noRec := r.Rec == api.RecParams{}
	switch r.Kind {
	case 1:
		return r.Page == 0 && noData && noRec
	case 2:
		return noValue && noRec && 0 <= r.Page && r.Page <= 127
	case 3:
		return noValue && r.Page == 0 && noData && r.Rec.PC&7 == 0
	}
	return false
}

func mayAll(l []api.Record) bool {
	if len(l) == 0 || l[0].Kind != 1 {
		return false
	}
	for _, r := range l[1:] {
		if r.Kind == 1 {
			return false
		}
	}
	return !slices.ContainsFunc(l, func(r api.Record) bool { return !may(r) })
}

// bench is an oracle beside its model: each call is done with both, and then the answers, and all that was asked, are held against each other.
type bench struct {
	t *testing.T
	o *oracle.Oracle
	a *answerer
}

func fresh(t *testing.T, m mode) *bench {
	return &bench{t, oracle.New(m.ideal, m.master, m.draws...), &answerer{m, map[string]api.Digest{}, nil}}
}

// inModes runs a test in each of these modes, with an oracle of its own.
func inModes(t *testing.T, l []mode, test func(b *bench)) {
	for _, m := range l {
		t.Run(m.name, func(t *testing.T) { test(fresh(t, m)) })
	}
}

// asked says that the questions that the oracle was asked, in their order, and the answers, are the model's.
func (b *bench) asked(what ...any) {
	b.t.Helper()
	same := func(a, b api.Asked) bool {
		return a.Answer == b.Answer && bytes.Equal(textOf(a.Question), textOf(b.Question))
	}
	if got := b.o.Log(); !slices.EqualFunc(got, b.a.log, same) {
		b.t.Fatalf("%v: asked %x; not %x", what, got, b.a.log)
	}
	used := 0
	if b.a.ideal {
		used = len(b.a.log)
	}
	if b.o.Used() != used {
		b.t.Fatal(what, "draws", b.o.Used(), "not", used)
	}
}

// answer is what a call should answer, or does.
type answer struct {
	m api.Digest
	e api.Errno
}

func answered(m api.Digest, e api.Errno) answer { return answer{m, e} }

// ends holds what a call answered against the model's, and what was asked.
func (b *bench) ends(got, want answer, what ...any) answer {
	b.t.Helper()
	if got != want {
		b.t.Fatalf("%v: %x, %d; not %x, %d", what, got.m, got.e, want.m, want.e)
	}
	b.asked(what...)
	return got
}

func (b *bench) begin(p api.RealmParams) answer {
	b.t.Helper()
	return b.ends(answered(measure.Begin(b.o, p)), answered(b.a.begin(p.Value)), "Begin", p)
}

func (b *bench) data(m api.Digest, at int, g api.Granule) answer {
	b.t.Helper()
	return b.ends(answered(measure.Data(b.o, m, at, g)), answered(b.a.data(m, at, g)), "Data", m, at)
}

func (b *bench) rec(m api.Digest, p api.RecParams) answer {
	b.t.Helper()
	return b.ends(answered(measure.Rec(b.o, m, p)), answered(b.a.rec(m, p)), "Rec", m, p)
}

func (b *bench) next(m api.Digest, r api.Record) answer {
	b.t.Helper()
	if got := measure.May(r); got != may(r) {
		b.t.Fatal("May", r, got)
	}
	return b.ends(answered(measure.Next(b.o, m, r)), answered(b.a.next(m, r)), "Next", m, r)
}

// replay also holds MayAll against the model's, and the list against what it was.
func (b *bench) replay(l ...api.Record) answer {
	b.t.Helper()
	was := slices.Clone(l[:cap(l)])
	if got := measure.MayAll(l...); got != mayAll(l) {
		b.t.Fatal("MayAll", l, got)
	}
	got := b.ends(answered(measure.Replay(b.o, l)), answered(b.a.replay(l)), "Replay", l)
	if !slices.Equal(l[:cap(l)], was) {
		b.t.Fatal("the list was changed", l, was)
	}
	return got
}

// right is the measurement of a call that must not be refused.
func (b *bench) right(x answer) api.Digest {
	b.t.Helper()
	if x.e != api.OK {
		b.t.Fatal("refused", x.e)
	}
	return x.m
}

// wrong says that a call is refused as it should be.
func (b *bench) wrong(x answer, want api.Errno) {
	b.t.Helper()
	if x != (answer{api.Digest{}, want}) {
		b.t.Fatalf("%x, %d; not %d", x.m, x.e, want)
	}
}

// anyRecord is a record that is drawn: right ones mostly, and wrong ones of each sort.
func anyRecord(r *rand.Rand) api.Record {
	by := byte(r.Intn(3))
	kinds := []api.Record{
		ofData(r.Intn(128), page(by)),
		ofData([]int{0, 1, 126, 127}[r.Intn(4)], api.Granule{}),
		ofRec(vcpu(8*uint64(r.Intn(4)), by == 0)),
		ofRec(vcpu(math.MaxUint64-7, by == 0)),
	}
	x := kinds[r.Intn(len(kinds))]
	switch r.Intn(24) {
	case 0:
		x.Kind = api.RecordKind(r.Intn(7) - 1)
	case 1:
		x.Value = digest(by)
	case 2:
		x.Page += []int{-1, 1, 128, -128, math.MaxInt}[r.Intn(5)]
	case 3:
		x.Data[r.Intn(128)] ^= 1 << r.Intn(8)
	case 4:
		x.Rec.PC += uint64(r.Intn(9))
	case 5:
		x.Rec.Regs[r.Intn(8)] ^= 1 << r.Intn(64)
	case 6:
		x.Rec.Runnable = !x.Rec.Runnable
	}
	return x
}

// anyList is a list that is drawn: one that begins with a realm's record mostly.
func anyList(r *rand.Rand) []api.Record {
	var out []api.Record
	if r.Intn(10) > 0 {
		out = append(out, ofRealm(digest(byte(r.Intn(3)))))
	}
	for range r.Intn(6) {
		out = append(out, anyRecord(r))
	}
	return out
}

// any does a call that is drawn, its arguments too, and answers a measurement to go on behind.
func (b *bench) any(r *rand.Rand, m api.Digest) api.Digest {
	b.t.Helper()
	x := anyRecord(r)
	switch r.Intn(5) {
	case 0:
		return b.begin(api.RealmParams{Value: digest(byte(r.Intn(4))), Nodes: r.Uint64()}).m
	case 1:
		return b.data(m, x.Page, x.Data).m
	case 2:
		return b.rec(m, x.Rec).m
	case 3:
		return b.next(m, x).m
	}
	return b.replay(anyList(r)...).m
}

// P12.1, P12.2, P0.8: calls that are drawn, each held against the model.
func TestAnyCalls(t *testing.T) {
	inModes(t, modes(), func(b *bench) {
		for seed := range int64(8) {
			r := rand.New(rand.NewSource(seed))
			c := fresh(b.t, b.a.mode)
			var m api.Digest
			for range 250 {
				m = c.any(r, m)
			}
		}
	})
}
