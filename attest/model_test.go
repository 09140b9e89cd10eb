package attest_test

import (
	"bytes"
	"crypto/hmac"
	"crypto/sha256"
	"encoding/binary"
	"math"
	"math/rand"
	"slices"
	"testing"

	"anchorite/api"
	"anchorite/attest"
	"anchorite/oracle"
)

// digest has 32 bytes that all differ, each by so many more.
func digest(by byte) api.Digest {
	var d api.Digest
	for i := range d {
		d[i] = byte(7*i+3) + by
	}
	return d
}

// filled has 32 bytes that are all the same.
func filled(x byte) api.Digest { return api.Digest(slices.Repeat([]byte{x}, 32)) }

// usual is a report no two parts of which could be taken for one another.
func usual() api.Report {
	return api.Report{Instance: 0x0807060504030201, Measure: digest(11), Challenge: digest(240)}
}

// instances are the edges, and such as lie on both sides of where a number has a byte more.
func instances() []uint64 {
	out := []uint64{0, 1, 2, 258, math.MaxInt64, 1 << 63, math.MaxUint64 - 1, math.MaxUint64}
	for n := 1; n < 8; n++ {
		out = append(out, 1<<(8*n)-1, 1<<(8*n))
	}
	return out
}

// digests are of noughts, of bytes 255, ordinary ones, and such with one bit at an end.
func digests() []api.Digest {
	return []api.Digest{{}, filled(255), digest(1), digest(200), {0: 1}, {31: 128}, filled(1)}
}

// reports are all instances with digests in turn, and all digests on either side; no two are alike.
func reports() []api.Report {
	l := digests()
	out := []api.Report{usual()}
	for i, n := range instances() {
		out = append(out, api.Report{Instance: n, Measure: l[i%len(l)], Challenge: l[(i+3)%len(l)]})
	}
	for i, m := range l {
		for j, c := range l {
			out = append(out, api.Report{Instance: uint64(100*i + j + 10), Measure: m, Challenge: c})
		}
	}
	return out
}

// mode is how an oracle answers, and of what.
type mode struct {
	name  string
	ideal bool
	draws []api.Digest
}

// drawn is n draws of which no two are alike.
func drawn(n int) []api.Digest {
	out := make([]api.Digest, n)
	for i := range out {
		out[i] = digest(byte(i))
		binary.BigEndian.PutUint32(out[i][20:], uint32(i))
	}
	return out
}

// modes are both, the ideal one with draws that end ahead of the key, between it and a tag, behind that, and with such as are alike.
func modes() []mode {
	return []mode{
		{"concrete", false, nil},
		{"concrete, with draws", false, drawn(3)},
		{"ideal, no draws", true, nil},
		{"ideal, 1 draw", true, drawn(1)},
		{"ideal, 2 draws", true, drawn(2)},
		{"ideal, 3 draws", true, drawn(3)},
		{"ideal, 20000 draws", true, drawn(20000)},
		{"ideal, draws alike", true, slices.Repeat([]api.Digest{digest(9)}, 20000)},
		{"ideal, draws of noughts", true, make([]api.Digest, 20000)},
		{"ideal, draws alike at first", true, slices.Repeat([]api.Digest{digest(9)}, 30)},
	}
}

// distinctModes are those in which no two questions have one answer.
func distinctModes() []mode { return modes()[:7] }

// master is the master key of all oracles that are not said to have another.
func master() api.Digest { return digest(50) }

// model is what there should be: an oracle's answers, and its log.
type model struct {
	mode
	answers map[string]api.Digest
	log     []api.Asked
}

func newModel(m mode) *model { return &model{m, map[string]api.Digest{}, nil} }

// textOf is a question's text, as layer 5 has it.
func textOf(q api.Question) []byte {
	out := append([]byte{byte(q.Kind)}, q.Key[:]...)
	return append(append(out, byte(q.Domain)), q.Data...)
}

// byLibrary is the concrete answer of a question for a key, or for a tag.
func byLibrary(q api.Question) api.Digest {
	h := hmac.New(sha256.New, q.Key[:])
	h.Write(textOf(q))
	return api.Digest(h.Sum(nil))
}

// ask is the answer that a question had, or has from now on: a draw, or what the library says.
func (a *model) ask(q api.Question) api.Digest {
	text := string(textOf(q))
	if d, is := a.answers[text]; is {
		return d
	}
	var d api.Digest
	switch i := len(a.log); {
	case !a.ideal:
		d = byLibrary(q)
	case i < len(a.draws):
		d = a.draws[i]
	default:
		binary.LittleEndian.PutUint64(d[:], uint64(i))
		d[31] = 1
	}
	a.answers[text] = d
	a.log = append(a.log, api.Asked{Question: q, Answer: d})
	return d
}

// tag is the tag of bytes, by the key that is asked for first.
func (a *model) tag(b []byte) api.Digest {
	key := a.ask(api.Question{Kind: 3, Key: master(), Domain: 9})
	return a.ask(api.Question{Kind: 2, Key: key, Domain: 7, Data: b})
}

// bytesOf is the bytes of a report, as layer 18 has them.
func bytesOf(r api.Report) []byte {
	b := []byte("report\x00\x00")
	b = binary.LittleEndian.AppendUint64(b, r.Instance)
	b = append(b, r.Measure[:]...)
	return append(b, r.Challenge[:]...)
}

// with is a report's bytes, and a tag, whichever, behind them.
func with(r api.Report, tag api.Digest) []byte { return append(bytesOf(r), tag[:]...) }

// parts are what a proof tells, whoever made it, and whether it is one.
type parts struct {
	r   api.Report
	tag api.Digest
}

func split(b []byte) (parts, api.Errno) {
	if len(b) != 112 || string(b[:8]) != "report\x00\x00" {
		return parts{}, api.ErrBytes
	}
	return parts{api.Report{
		Instance:  binary.LittleEndian.Uint64(b[8:16]),
		Measure:   api.Digest(b[16:48]),
		Challenge: api.Digest(b[48:80]),
	}, api.Digest(b[80:112])}, api.OK
}

// verdict is what Verify tells beside an error.
type verdict struct {
	r        api.Report
	accepted bool
}

func (a *model) verify(b []byte) (verdict, api.Errno) {
	p, e := split(b)
	if e != api.OK {
		return verdict{}, e
	}
	return verdict{p.r, a.tag(b[:80]) == p.tag}, api.OK
}

// bench is an oracle beside its model: each call is done with both, and then the answers, and all that was asked, are held against each other.
type bench struct {
	t *testing.T
	o *oracle.Oracle
	a *model
}

func fresh(t *testing.T, m mode) *bench {
	return &bench{t, oracle.New(m.ideal, master(), m.draws...), newModel(m)}
}

// inModes runs a test in each of these modes, with an oracle of its own.
func inModes(t *testing.T, l []mode, test func(b *bench)) {
	for _, m := range l {
		t.Run(m.name, func(t *testing.T) { test(fresh(t, m)) })
	}
}

func sameAsked(a, b api.Asked) bool {
	return a.Answer == b.Answer && bytes.Equal(textOf(a.Question), textOf(b.Question))
}

// asIs says that what the oracle was asked, in its order, with the answers, is the model's.
func (b *bench) asIs(what ...any) {
	b.t.Helper()
	if got := b.o.Log(); !slices.EqualFunc(got, b.a.log, sameAsked) {
		b.t.Fatalf("%v: asked %x; not %x", what, got, b.a.log)
	}
	used := 0
	if b.a.ideal {
		used = len(b.a.log)
	}
	if b.o.Used() != used {
		b.t.Fatal(what, "draws", b.o.Used(), "not", used)
	}
}

// answer is what a call should answer, or does.
type answer[T comparable] struct {
	x T
	e api.Errno
}

func answered[T comparable](x T, e api.Errno) answer[T] { return answer[T]{x, e} }

// ends holds what a call answered against the model's, and what was asked.
func ends[T comparable](b *bench, got, want answer[T], what ...any) answer[T] {
	b.t.Helper()
	if got != want {
		b.t.Fatalf("%v: %v, %d; not %v, %d", what, got.x, got.e, want.x, want.e)
	}
	// The whole log is long after some calls: its length tells what a call asks too much, and asIs the rest.
	if n := len(b.a.log); n < 100 {
		b.asIs(what...)
	} else if b.a.ideal && b.o.Used() != n {
		b.t.Fatal(what, "draws", b.o.Used(), "not", n)
	}
	return got
}

// verified is what Verify answers; what is handed in must stay as it was.
func verified(o *oracle.Oracle, b []byte) answer[verdict] {
	was := string(b)
	r, is, e := attest.Verify(o, b)
	if string(b) != was {
		panic("Verify wrote what it was handed")
	}
	return answered(verdict{r, is}, e)
}

// cut is what Split answers; what is handed in must stay as it was.
func cut(b []byte) answer[parts] {
	was := string(b)
	r, tag, e := attest.Split(b)
	if string(b) != was {
		panic("Split wrote what it was handed")
	}
	return answered(parts{r, tag}, e)
}

// issue is the proof of a report, as Issue and the model tell it.
func (b *bench) issue(r api.Report) []byte {
	b.t.Helper()
	got, e := attest.Issue(b.o, r)
	ends(b, answered(string(got), e), answered(string(with(r, b.a.tag(bytesOf(r)))), api.OK), "Issue", r)
	return got
}

func (b *bench) verify(p []byte) answer[verdict] {
	b.t.Helper()
	return ends(b, verified(b.o, p), answered(b.a.verify(p)), "Verify", p)
}

func (b *bench) split(p []byte) answer[parts] {
	b.t.Helper()
	return ends(b, cut(p), answered(split(p)), "Split", p)
}

// accepts says that a proof is accepted, as one of this report.
func (b *bench) accepts(p []byte, r api.Report) {
	b.t.Helper()
	if x := b.verify(p); x != (answer[verdict]{verdict{r, true}, api.OK}) {
		b.t.Fatalf("%v, %d; not accepted as %v", x.x, x.e, r)
	}
}

// rejects says that bytes are not accepted, but tell this report.
func (b *bench) rejects(p []byte, r api.Report) {
	b.t.Helper()
	if x := b.verify(p); x != (answer[verdict]{verdict{r, false}, api.OK}) {
		b.t.Fatalf("%v, %d; not rejected as %v", x.x, x.e, r)
	}
}

// noProof says that bytes tell no report, and that nothing is asked for them.
func (b *bench) noProof(p []byte, what ...any) {
	b.t.Helper()
	n := len(b.o.Log())
	if x := b.verify(p); x != (answer[verdict]{e: api.ErrBytes}) {
		b.t.Fatalf("Verify %v: %v, %d; not ErrBytes", what, x.x, x.e)
	}
	if x := b.split(p); x != (answer[parts]{e: api.ErrBytes}) {
		b.t.Fatalf("Split %v: %v, %d; not ErrBytes", what, x.x, x.e)
	}
	if len(b.o.Log()) != n {
		b.t.Fatal(what, "asked", b.o.Log()[n:])
	}
}

// turned are bytes one bit of which is another.
func turned(p []byte, bit int) []byte {
	out := slices.Clone(p)
	out[bit/8] ^= 1 << (bit % 8)
	return out
}

// reportOf is the report that bytes tell which are some report's, and more.
func reportOf(p []byte) api.Report {
	x, _ := split(append(slices.Clone(p[:80]), make([]byte, 32)...))
	return x.r
}

// some is a report that is drawn: of few, mostly, so that they meet.
func some(r *rand.Rand) api.Report {
	if l := reports(); r.Intn(3) > 0 {
		return l[r.Intn(8)]
	}
	x := api.Report{Instance: r.Uint64() >> r.Intn(64)}
	for i := range x.Measure {
		x.Measure[i], x.Challenge[i] = byte(r.Intn(256)), byte(r.Intn(256))
	}
	return x
}

// spoilt are bytes that are drawn of others: a bit turned, a byte left out, or laid in, or exchanged, or another tag.
func spoilt(r *rand.Rand, p, other []byte) []byte {
	out := slices.Clone(p)
	i, j := r.Intn(len(p)), r.Intn(len(p))
	switch r.Intn(6) {
	case 0:
		return turned(p, r.Intn(8*len(p)))
	case 1:
		return slices.Delete(out, i, i+1)
	case 2:
		return slices.Insert(out, i, byte(r.Intn(256)))
	case 3:
		out[i], out[j] = out[j], out[i]
		return out
	case 4:
		return slices.Concat(p[:80], other[80:])
	default:
		return slices.Concat(other[:j], p[j:])
	}
}

// P19.1 to P19.3, P0.8: calls that are drawn, each held against the model.
func TestAnyCalls(t *testing.T) {
	inModes(t, modes(), func(b *bench) {
		r := rand.New(rand.NewSource(19))
		var issued [][]byte
		for range 400 {
			p := b.issue(some(r))
			issued = append(issued, p)
			other := issued[r.Intn(len(issued))]
			b.accepts(other, reportOf(other))
			x := spoilt(r, p, other)
			b.verify(x)
			b.split(x)
		}
		b.asIs("all calls")
	})
}
