package blob_test

import (
	"bytes"
	"crypto/aes"
	"crypto/cipher"
	"crypto/sha256"
	"encoding/binary"
	"math/rand"
	"slices"
	"testing"

	"anchorite/api"
	"anchorite/blob"
	"anchorite/oracle"
)

const (
	size = 128     // bytes of a granule
	last = 1 << 32 // the greatest counter
)

// digest is 32 bytes that all differ, each by so many more.
func digest(by byte) api.Digest {
	var d api.Digest
	for i := range d {
		d[i] = byte(7*i+3) + by
	}
	return d
}

// granule is 128 bytes that are unlike those beside them, and those of each other block, each by so many more.
func granule(by byte) api.Granule {
	var g api.Granule
	for i := range g {
		g[i] = byte(11*i+i/32+5) + by
	}
	return g
}

// filled is a granule of that byte.
func filled(x byte) api.Granule { return api.Granule(slices.Repeat([]byte{x}, size)) }

// granules are noughts, bytes 255, ones, such with one bit at an end, and some of all bytes.
func granules() []api.Granule {
	return []api.Granule{{}, filled(255), filled(1), {0: 1}, {127: 128}, granule(0), granule(99)}
}

// keys are noughts, bytes 255, such with one bit at an end of either half, and some of all bytes.
func keys() []api.Digest {
	return []api.Digest{{}, api.Digest(slices.Repeat([]byte{255}, 32)), {0: 1}, {15: 128}, {16: 1}, {31: 128}, digest(0), digest(77)}
}

// edgePages are the first, the last, and some between.
func edgePages() []int { return []int{0, 1, 2, 63, 64, 77, 126, 127} }

// edgeCounters are the least, the greatest, and those at which a byte more is needed.
func edgeCounters() []uint64 {
	return []uint64{0, 1, 2, 255, 256, 65535, 65536, 1<<24 - 1, 1 << 24, 1<<31 - 1, 1 << 31, 1<<32 - 1, last}
}

// mode is how an oracle answers, and of what.
type mode struct {
	name  string
	ideal bool
	draws []api.Digest
}

// drawn is n draws of which no two are alike.
func drawn(n int) []api.Digest {
	out := make([]api.Digest, n)
	for i := range out {
		out[i] = digest(byte(i))
		binary.BigEndian.PutUint32(out[i][20:], uint32(i))
	}
	return out
}

// modes are both, the ideal one with draws that end before, within and behind a page's stream, and with such as are alike.
func modes() []mode {
	return []mode{
		{"concrete", false, nil},
		{"concrete, with draws", false, drawn(3)},
		{"ideal, no draws", true, nil},
		{"ideal, 1 draw", true, drawn(1)},
		{"ideal, 3 draws", true, drawn(3)},
		{"ideal, 4 draws", true, drawn(4)},
		{"ideal, 50 draws", true, drawn(50)},
		{"ideal, 20000 draws", true, drawn(20000)},
		{"ideal, draws alike", true, slices.Repeat([]api.Digest{digest(9)}, 20000)},
		{"ideal, draws of noughts", true, make([]api.Digest, 20000)},
		{"ideal, draws alike at first", true, slices.Repeat([]api.Digest{digest(9)}, 30)},
	}
}

// distinctModes are those in which no two questions have one answer.
func distinctModes() []mode { return modes()[:8] }

// model is what there should be: an oracle's answers, and its log.
type model struct {
	mode
	answers map[string]api.Digest
	log     []api.Asked
}

func newModel(m mode) *model { return &model{m, map[string]api.Digest{}, nil} }

// textOf is a question's text, as layer 5 has it.
func textOf(q api.Question) []byte {
	out := append([]byte{byte(q.Kind)}, q.Key[:]...)
	return append(append(out, byte(q.Domain)), q.Data...)
}

// ask is the answer that a question had, or has from now on: a draw, or what was computed.
func (a *model) ask(q api.Question, computed api.Digest) api.Digest {
	text := string(textOf(q))
	if d, is := a.answers[text]; is {
		return d
	}
	d := computed
	if i := len(a.log); a.ideal && i < len(a.draws) {
		d = a.draws[i]
	} else if a.ideal {
		d = api.Digest{31: 1}
		binary.LittleEndian.PutUint64(d[:], uint64(i))
	}
	a.answers[text] = d
	a.log = append(a.log, api.Asked{Question: q, Answer: d})
	return d
}

// number is 8 bytes of n, the lowest first.
func number(n uint64) []byte { return binary.LittleEndian.AppendUint64(nil, n) }

// streamAsked is the question for a page's stream.
func streamAsked(key api.Digest, page int, counter uint64) api.Question {
	return api.Question{Kind: 4, Key: key, Domain: 10, Data: slices.Concat(number(uint64(page)), number(counter))}
}

// stream is a page's stream: by the library, or block by block.
func (a *model) stream(key api.Digest, page int, counter uint64) []byte {
	q := streamAsked(key, page, counter)
	if !a.ideal {
		out := byLibrary(q)
		a.ask(q, api.Digest(out[:32]))
		return out
	}
	var out []byte
	for i := range uint64(4) {
		block := q
		block.Data = slices.Concat(q.Data, number(i))
		d := a.ask(block, api.Digest{})
		out = append(out, d[:]...)
	}
	return out
}

// byLibrary is the concrete stream of a question.
func byLibrary(q api.Question) []byte {
	nonce := sha256.Sum256(textOf(q))
	var first [16]byte
	copy(first[:8], nonce[:8])
	c, err := aes.NewCipher(q.Key[:16])
	if err != nil {
		panic(err)
	}
	out := make([]byte, size)
	cipher.NewCTR(c, first[:]).XORKeyStream(out, out)
	return out
}

// may is whether there is such a page, and such a counter.
func may(page int, counter uint64) bool { return page >= 0 && page <= 127 && counter <= last }

func (a *model) masked(key api.Digest, page int, counter uint64, g api.Granule) (api.Granule, api.Errno) {
	if !may(page, counter) {
		return api.Granule{}, api.ErrArg
	}
	for i, x := range a.stream(key, page, counter) {
		g[i] ^= x
	}
	return g, api.OK
}

// digest is the answer to a question for a digest.
func (a *model) digest(d api.Domain, parts ...[]byte) api.Digest {
	q := api.Question{Kind: 1, Domain: d, Data: slices.Concat(parts...)}
	return a.ask(q, sha256.Sum256(textOf(q)))
}

func (a *model) leaf(page int, counter uint64, sealed api.Granule) (api.Digest, api.Errno) {
	if !may(page, counter) {
		return api.Digest{}, api.ErrArg
	}
	return a.digest(4, number(uint64(page)), number(counter), sealed[:]), api.OK
}

func (a *model) none(page int) (api.Digest, api.Errno) {
	if !may(page, 0) {
		return api.Digest{}, api.ErrArg
	}
	return a.digest(6, number(uint64(page))), api.OK
}

// bench is an oracle beside its model: each call is done with both, and then the answers, and all that was asked, are held against each other.
type bench struct {
	t *testing.T
	o *oracle.Oracle
	a *model
}

func fresh(t *testing.T, m mode) *bench {
	return &bench{t, oracle.New(m.ideal, digest(1), m.draws...), newModel(m)}
}

// inModes runs a test in each of these modes, with an oracle of its own.
func inModes(t *testing.T, l []mode, test func(b *bench)) {
	for _, m := range l {
		t.Run(m.name, func(t *testing.T) { test(fresh(t, m)) })
	}
}

func sameAsked(a, b api.Asked) bool {
	return a.Answer == b.Answer && bytes.Equal(textOf(a.Question), textOf(b.Question))
}

// asIs says that what the oracle was asked, in its order, with the answers, is the model's.
func (b *bench) asIs(what ...any) {
	b.t.Helper()
	if got := b.o.Log(); !slices.EqualFunc(got, b.a.log, sameAsked) {
		b.t.Fatalf("%v: asked %x; not %x", what, got, b.a.log)
	}
	used := 0
	if b.a.ideal {
		used = len(b.a.log)
	}
	if b.o.Used() != used {
		b.t.Fatal(what, "draws", b.o.Used(), "not", used)
	}
}

// answer is what a call should answer, or does.
type answer[T comparable] struct {
	x T
	e api.Errno
}

func answered[T comparable](x T, e api.Errno) answer[T] { return answer[T]{x, e} }

// ends holds what a call answered against the model's, and what was asked.
func ends[T comparable](b *bench, got, want answer[T], what ...any) answer[T] {
	b.t.Helper()
	if got != want {
		b.t.Fatal(what, got.x, got.e, "not", want.x, want.e)
	}
	// The whole log is long after some calls: its length tells what a call asks too much, and asIs the rest.
	if n := len(b.a.log); n < 200 {
		b.asIs(what...)
	} else if b.a.ideal && b.o.Used() != n {
		b.t.Fatal(what, "draws", b.o.Used(), "not", n)
	}
	return got
}

func (b *bench) seal(key api.Digest, page int, counter uint64, g api.Granule) answer[api.Granule] {
	b.t.Helper()
	return ends(b, answered(blob.Seal(b.o, key, page, counter, g)), answered(b.a.masked(key, page, counter, g)), "Seal", key, page, counter)
}

func (b *bench) open(key api.Digest, page int, counter uint64, g api.Granule) answer[api.Granule] {
	b.t.Helper()
	return ends(b, answered(blob.Open(b.o, key, page, counter, g)), answered(b.a.masked(key, page, counter, g)), "Open", key, page, counter)
}

func (b *bench) leaf(page int, counter uint64, g api.Granule) answer[api.Digest] {
	b.t.Helper()
	return ends(b, answered(blob.Leaf(b.o, page, counter, g)), answered(b.a.leaf(page, counter, g)), "Leaf", page, counter)
}

func (b *bench) none(page int) answer[api.Digest] {
	b.t.Helper()
	return ends(b, answered(blob.None(b.o, page)), answered(b.a.none(page)), "None", page)
}

// right is what a call that must not be refused answered.
func right[T comparable](b *bench, x answer[T]) T {
	b.t.Helper()
	if x.e != api.OK {
		b.t.Fatal("refused", x.e)
	}
	return x.x
}

// wrong says that a call is refused as it should be, and with nothing beside the error.
func wrong[T comparable](b *bench, x answer[T], want api.Errno) {
	b.t.Helper()
	var nothing T
	if x != (answer[T]{nothing, want}) {
		b.t.Fatal(x.x, x.e, "not", want)
	}
}

// one is one of a list, drawn.
func one[T any](r *rand.Rand, l []T) T { return l[r.Intn(len(l))] }

// any does a call that is drawn, its arguments too: few mostly, so that they meet.
func (b *bench) any(r *rand.Rand) {
	b.t.Helper()
	page, counter := one(r, edgePages()), one(r, []uint64{0, 1, 2, last})
	if r.Intn(10) == 0 {
		page = one(r, wrongPages())
	}
	if r.Intn(10) == 0 {
		counter = one(r, wrongCounters())
	}
	key, g := one(r, keys()), one(r, granules())
	switch r.Intn(6) {
	case 0:
		b.seal(key, page, counter, g)
	case 1:
		b.open(key, page, counter, g)
	case 2:
		b.leaf(page, counter, g)
	case 3:
		b.none(page)
	case 4:
		sealed := b.seal(key, page, counter, g)
		b.leaf(page, counter, sealed.x)
	default:
		sealed := b.seal(key, page, counter, g)
		if opened := b.open(key, page, counter, sealed.x); opened.e == api.OK && opened.x != g {
			b.t.Fatal("not as it was", page, counter)
		}
	}
}

// P16.1 to P16.3, P0.8: calls that are drawn, each held against the model.
func TestAnyCalls(t *testing.T) {
	inModes(t, modes(), func(b *bench) {
		r := rand.New(rand.NewSource(16))
		for range 400 {
			b.any(r)
		}
		b.asIs("all calls")
	})
}
