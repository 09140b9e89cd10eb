package tree_test

import (
	"bytes"
	"crypto/sha256"
	"encoding/binary"
	"math"
	"math/rand"
	"slices"
	"strconv"
	"strings"
	"testing"

	"anchorite/api"
	"anchorite/machine"
	"anchorite/oracle"
	"anchorite/tree"
)

const (
	size = 128  // bytes of a granule
	all  = 8192 // bytes that the nodes take, those of the numbers 0 and 1 too
)

// digest is 32 bytes that all differ, each by so many more.
func digest(by byte) api.Digest {
	var d api.Digest
	for i := range d {
		d[i] = byte(7*i+3) + by
	}
	return d
}

// junk is n bytes, none of them 0, that are unlike those beside them and those of the nodes beside.
func junk(n int) []byte {
	b := make([]byte, n)
	for i := range b {
		b[i] = byte((13*i+i/32+i/8192)%255 + 1)
	}
	return b
}

// mode is how an oracle answers, and of what.
type mode struct {
	name  string
	ideal bool
	draws []api.Digest
}

// drawn is n draws of which no two are alike.
func drawn(n int) []api.Digest {
	out := make([]api.Digest, n)
	for i := range out {
		out[i] = digest(byte(i))
		binary.BigEndian.PutUint32(out[i][20:], uint32(i))
	}
	return out
}

// modes are both, the ideal one with none but the draws behind a list's end, with draws that end ahead of the last leaf, ahead of the last node, and later, and with such as are alike.
func modes() []mode {
	return []mode{
		{"concrete", false, nil},
		{"concrete, with draws", false, drawn(3)},
		{"ideal, no draws", true, nil},
		{"ideal, 5 draws", true, drawn(5)},
		{"ideal, 254 draws", true, drawn(254)},
		{"ideal, 255 draws", true, drawn(255)},
		{"ideal, 3000 draws", true, drawn(3000)},
		{"ideal, draws alike", true, slices.Repeat([]api.Digest{digest(9)}, 3000)},
		{"ideal, draws of noughts", true, make([]api.Digest, 3000)},
		{"ideal, draws alike at first", true, slices.Repeat([]api.Digest{digest(9)}, 300)},
	}
}

// distinctModes are those in which no two questions have one answer.
func distinctModes() []mode { return modes()[:7] }

// model is what there should be: an oracle's answers and its log, and memory as bytes.
type model struct {
	mode
	answers map[string]api.Digest
	log     []api.Asked
	bytes   []byte
}

// textOf is a question's text, as layer 5 has it.
func textOf(q api.Question) []byte {
	out := append([]byte{byte(q.Kind)}, q.Key[:]...)
	return append(append(out, byte(q.Domain)), q.Data...)
}

// digest is the answer to a question for a digest.
func (a *model) digest(d api.Domain, parts ...[]byte) api.Digest {
	q := api.Question{Kind: 1, Domain: d, Data: slices.Concat(parts...)}
	text := textOf(q)
	if m, is := a.answers[string(text)]; is {
		return m
	}
	var m api.Digest
	switch i := len(a.log); {
	case !a.ideal:
		m = sha256.Sum256(text)
	case i < len(a.draws):
		m = a.draws[i]
	default:
		binary.LittleEndian.PutUint64(m[:], uint64(i))
		m[31] = 1
	}
	a.answers[string(text)] = m
	a.log = append(a.log, api.Asked{Question: q, Answer: m})
	return m
}

func isPage(page int) bool { return page >= 0 && page <= 127 }

// within is whether all granules from nodes on are in memory: asked of each by itself.
func (a *model) within(nodes uint64) bool {
	if nodes > math.MaxUint64-all {
		return false
	}
	for g := range uint64(64) {
		if nodes%size != 0 || nodes+size*g >= uint64(len(a.bytes)) {
			return false
		}
	}
	return true
}

// node is where a node's bytes are.
func (a *model) node(nodes uint64, i int) []byte { return a.bytes[int(nodes)+32*i:][:32] }

func (a *model) none(page int) (api.Digest, api.Errno) {
	if !isPage(page) {
		return api.Digest{}, api.ErrArg
	}
	return a.digest(6, []byte{byte(page), 0, 0, 0, 0, 0, 0, 0}), api.OK
}

func (a *model) above(i int, x, y api.Digest) (api.Digest, api.Errno) {
	if i < 1 || i > 127 {
		return api.Digest{}, api.ErrArg
	}
	return a.digest(5, []byte{byte(i), 0, 0, 0, 0, 0, 0, 0}, x[:], y[:]), api.OK
}

func (a *model) lay(nodes uint64) (api.Digest, api.Errno) {
	if !a.within(nodes) {
		return api.Digest{}, api.ErrArg
	}
	for page := 0; page <= 127; page++ {
		d, _ := a.none(page)
		copy(a.node(nodes, 128+page), d[:])
	}
	for i := 127; ; i-- {
		d, _ := a.above(i, api.Digest(a.node(nodes, 2*i)), api.Digest(a.node(nodes, 2*i+1)))
		if i == 1 {
			return d, api.OK
		}
		copy(a.node(nodes, i), d[:])
	}
}

// onWay is whether a node is on a page's way: whether its number's digits begin the leaf's.
func onWay(i, page int) bool {
	return i > 0 && strings.HasPrefix(strconv.FormatInt(int64(128+page), 2), strconv.FormatInt(int64(i), 2))
}

// reckon is what a node comes to, from the root down: its own where it is the page's leaf, of both below where it is on the way, as it lies where it is not. It notes what it reckoned.
func (a *model) reckon(nodes uint64, i, page int, leaf api.Digest, note func(i int, d api.Digest)) api.Digest {
	switch {
	case !onWay(i, page):
		return api.Digest(a.node(nodes, i))
	case i == 128+page:
		note(i, leaf)
		return leaf
	}
	x := a.reckon(nodes, 2*i, page, leaf, note)
	y := a.reckon(nodes, 2*i+1, page, leaf, note)
	d, _ := a.above(i, x, y)
	note(i, d)
	return d
}

func (a *model) up(nodes uint64, page int, leaf api.Digest) (api.Digest, api.Errno) {
	if !isPage(page) || !a.within(nodes) {
		return api.Digest{}, api.ErrArg
	}
	return a.reckon(nodes, 1, page, leaf, func(int, api.Digest) {}), api.OK
}

func (a *model) set(nodes uint64, page int, leaf api.Digest) (api.Digest, api.Errno) {
	if !isPage(page) || !a.within(nodes) {
		return api.Digest{}, api.ErrArg
	}
	laid := map[int]api.Digest{}
	root := a.reckon(nodes, 1, page, leaf, func(i int, d api.Digest) { laid[i] = d })
	for i, d := range laid {
		if i > 1 {
			copy(a.node(nodes, i), d[:])
		}
	}
	return root, api.OK
}

func (a *model) at(nodes uint64, i int) (api.Digest, api.Errno) {
	if i < 2 || i > 255 || !a.within(nodes) {
		return api.Digest{}, api.ErrArg
	}
	return api.Digest(a.node(nodes, i)), api.OK
}

// bench is an oracle and a memory beside their model: each call is done with both, and then the answers, all that was asked, and all bytes, are held against each other.
type bench struct {
	t *testing.T
	o *oracle.Oracle
	m *machine.Memory
	a *model
}

// fresh is a bench whose memory is full of junk.
func fresh(t *testing.T, m mode, granules int) *bench {
	t.Helper()
	mem, e := machine.New(granules)
	if e != api.OK {
		t.Fatal("New", granules, e)
	}
	b := &bench{t, oracle.New(m.ideal, digest(1), m.draws...), mem, &model{m, map[string]api.Digest{}, nil, make([]byte, granules*size)}}
	b.write(0, junk(granules*size))
	return b
}

// inModes runs a test in each of these modes, with an oracle and a memory of its own.
func inModes(t *testing.T, l []mode, granules int, test func(b *bench)) {
	for _, m := range l {
		t.Run(m.name, func(t *testing.T) { test(fresh(t, m, granules)) })
	}
}

// write writes to memory what the host does.
func (b *bench) write(addr uint64, l []byte) {
	b.t.Helper()
	if e := b.m.Write(addr, l); e != api.OK {
		b.t.Fatal("Write", addr, len(l), e)
	}
	copy(b.a.bytes[addr:], l)
}

// turn turns a bit of a node.
func (b *bench) turn(nodes uint64, i, bit int) {
	b.t.Helper()
	x := b.a.node(nodes, i)[bit/8] ^ 1<<(bit%8)
	b.write(nodes+uint64(32*i+bit/8), []byte{x})
}

func sameAsked(a, b api.Asked) bool {
	return a.Answer == b.Answer && bytes.Equal(textOf(a.Question), textOf(b.Question))
}

// asIs says that what the oracle was asked, in its order, with the answers, and each byte of memory are the model's.
func (b *bench) asIs(what ...any) {
	b.t.Helper()
	if got := b.o.Log(); !slices.EqualFunc(got, b.a.log, sameAsked) {
		b.t.Fatalf("%v: asked %x; not %x", what, got, b.a.log)
	}
	used := 0
	if b.a.ideal {
		used = len(b.a.log)
	}
	if b.o.Used() != used {
		b.t.Fatal(what, "draws", b.o.Used(), "not", used)
	}
	got, e := b.m.Read(0, len(b.a.bytes))
	if e != api.OK || b.m.Granules()*size != len(got) {
		b.t.Fatal(what, "memory", e, b.m.Granules())
	}
	for i := range got {
		if got[i] != b.a.bytes[i] {
			b.t.Fatalf("%v: the byte %d is %d; not %d", what, i, got[i], b.a.bytes[i])
		}
	}
}

// answer is what a call should answer, or does.
type answer struct {
	d api.Digest
	e api.Errno
}

func answered(d api.Digest, e api.Errno) answer { return answer{d, e} }

// ends holds what a call answered against the model's, and what was asked and written.
func (b *bench) ends(got, want answer, what ...any) answer {
	b.t.Helper()
	if got != want {
		b.t.Fatalf("%v: %x, %d; not %x, %d", what, got.d, got.e, want.d, want.e)
	}
	b.asIs(what...)
	return got
}

func (b *bench) none(page int) answer {
	b.t.Helper()
	return b.ends(answered(tree.None(b.o, page)), answered(b.a.none(page)), "None", page)
}

func (b *bench) above(i int, x, y api.Digest) answer {
	b.t.Helper()
	return b.ends(answered(tree.Node(b.o, i, x, y)), answered(b.a.above(i, x, y)), "Node", i, x, y)
}

func (b *bench) lay(nodes uint64) answer {
	b.t.Helper()
	return b.ends(answered(tree.Lay(b.o, b.m, nodes)), answered(b.a.lay(nodes)), "Lay", nodes)
}

func (b *bench) up(nodes uint64, page int, leaf api.Digest) answer {
	b.t.Helper()
	return b.ends(answered(tree.Up(b.o, b.m, nodes, page, leaf)), answered(b.a.up(nodes, page, leaf)), "Up", nodes, page)
}

func (b *bench) set(nodes uint64, page int, leaf api.Digest) answer {
	b.t.Helper()
	return b.ends(answered(tree.Set(b.o, b.m, nodes, page, leaf)), answered(b.a.set(nodes, page, leaf)), "Set", nodes, page)
}

func (b *bench) at(nodes uint64, i int) answer {
	b.t.Helper()
	return b.ends(answered(tree.At(b.m, nodes, i)), answered(b.a.at(nodes, i)), "At", nodes, i)
}

// check is Check's answer, held against the model's.
func (b *bench) check(nodes uint64, root api.Digest, page int, leaf api.Digest) bool {
	b.t.Helper()
	is := b.quick(nodes, root, page, leaf)
	b.asIs("Check", nodes, page)
	return is
}

// quick is check where there are many: what was asked and written is left to who calls it.
func (b *bench) quick(nodes uint64, root api.Digest, page int, leaf api.Digest) bool {
	b.t.Helper()
	is, e := tree.Check(b.o, b.m, nodes, root, page, leaf)
	d, want := b.a.up(nodes, page, leaf)
	if e != want || is != (want == api.OK && d == root) {
		b.t.Fatalf("Check %d, %d: %v, %d; Up is %x, %d", nodes, page, is, e, d, want)
	}
	return is
}

func (b *bench) within(nodes uint64) bool {
	b.t.Helper()
	is := tree.Within(b.m, nodes)
	if is != b.a.within(nodes) {
		b.t.Fatal("Within", b.m.Granules(), nodes, is)
	}
	b.asIs("Within", nodes)
	return is
}

// right is the digest of a call that must not be refused.
func (b *bench) right(x answer) api.Digest {
	b.t.Helper()
	if x.e != api.OK {
		b.t.Fatal("refused", x.e)
	}
	return x.d
}

// wrong says that a call is refused as it should be.
func (b *bench) wrong(x answer, want api.Errno) {
	b.t.Helper()
	if x != (answer{api.Digest{}, want}) {
		b.t.Fatalf("%x, %d; not %d", x.d, x.e, want)
	}
}

// anyNodes are nodes that are drawn: right ones mostly, of a memory of so many granules.
func anyNodes(r *rand.Rand, granules int) uint64 {
	if r.Intn(12) == 0 {
		l := wrongNodes(granules)
		return l[r.Intn(len(l))]
	}
	return size * uint64(r.Intn(granules-63))
}

// anyPage is a page that is drawn: few mostly, so that they meet.
func anyPage(r *rand.Rand) int {
	switch r.Intn(12) {
	case 0:
		l := wrongPages()
		return l[r.Intn(len(l))]
	case 1, 2:
		return r.Intn(128)
	}
	return []int{0, 1, 2, 63, 64, 126, 127}[r.Intn(7)]
}

// any does a call that is drawn, its arguments too, and answers a root to go on with.
func (b *bench) any(r *rand.Rand, root api.Digest) api.Digest {
	b.t.Helper()
	nodes, page, leaf := anyNodes(r, b.m.Granules()), anyPage(r), digest(byte(r.Intn(5)))
	if r.Intn(4) == 0 && isPage(page) {
		leaf, _ = b.a.none(page)
		tree.None(b.o, page)
	}
	switch r.Intn(12) {
	case 0:
		return b.lay(nodes).d
	case 1, 2:
		return b.up(nodes, page, leaf).d
	case 3, 4:
		b.check(nodes, root, page, leaf)
	case 5, 6, 7, 8:
		return b.set(nodes, page, leaf).d
	case 9:
		b.at(nodes, r.Intn(262)-3)
	case 10:
		b.none(page)
		b.within(nodes)
		return b.above(r.Intn(133)-2, root, leaf).d
	default:
		b.write(uint64(r.Intn(len(b.a.bytes)-4)), []byte{1, 2, 3, 4}[:r.Intn(5)])
	}
	return root
}

// P15.1 to P15.3, P0.8: calls that are drawn, each held against the model; trees lie over each other, and are written otherwise between calls.
func TestAnyCalls(t *testing.T) {
	for _, granules := range []int{64, 65, 70, 130} {
		inModes(t, modes(), granules, func(b *bench) {
			r := rand.New(rand.NewSource(int64(granules)))
			var root api.Digest
			for range 200 {
				root = b.any(r, root)
			}
		})
	}
}
