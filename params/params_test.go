package params_test

import (
	"encoding/binary"
	"math"
	"math/rand"
	"testing"

	"anchorite/api"
	"anchorite/params"
)

// lastNodes is the last place from which 64 granules lie below MaxGranules.
const lastNodes = 4032 * 128

// realmEnd and recEnd are where the noughts begin that end a granule.
const (
	realmEnd = 48
	recEnd   = 81
)

// realmModel is the bytes of p by the chapter's words, whether p may be or not.
func realmModel(p api.RealmParams) api.Granule {
	var g api.Granule
	copy(g[:], "realm\x00\x00\x00")
	copy(g[8:40], p.Value[:])
	binary.LittleEndian.PutUint64(g[40:48], p.Nodes)
	return g
}

// recModel is the bytes of p by the chapter's words, whether p may be or not.
func recModel(p api.RecParams) api.Granule {
	var g api.Granule
	copy(g[:], "rec\x00\x00\x00\x00\x00")
	binary.LittleEndian.PutUint64(g[8:16], p.PC)
	for i, r := range p.Regs {
		binary.LittleEndian.PutUint64(g[16+8*i:], r)
	}
	if p.Runnable {
		g[80] = 1
	}
	return g
}

// blank says whether all bytes are noughts.
func blank(b []byte) bool {
	for _, c := range b {
		if c != 0 {
			return false
		}
	}
	return true
}

// kindModel says by g's bytes alone, one field after the other, whose they are.
func kindModel(g api.Granule) string {
	nodes, pc := binary.LittleEndian.Uint64(g[40:48]), binary.LittleEndian.Uint64(g[8:16])
	switch {
	case string(g[:8]) == "realm\x00\x00\x00" && nodes&127 == 0 && nodes <= lastNodes && blank(g[realmEnd:]):
		return "realm"
	case string(g[:8]) == "rec\x00\x00\x00\x00\x00" && pc&7 == 0 && g[80] < 2 && blank(g[recEnd:]):
		return "rec"
	}
	return ""
}

// check holds all that is read of g against the model, and answers its kind.
func check(t *testing.T, g api.Granule) string {
	t.Helper()
	want := kindModel(g)
	if k := params.Kind(g); k != want {
		t.Errorf("Kind of % x: %q, not %q", g, k, want)
	}
	p, e := params.Realm(g)
	if want == "realm" && (e != api.OK || realmModel(p) != g) {
		t.Errorf("Realm of % x: %v, %v", g, p, e)
	}
	if want != "realm" && (e != api.ErrBytes || p != api.RealmParams{}) {
		t.Errorf("Realm of % x, which is %q: %v, %v", g, want, p, e)
	}
	q, e := params.Rec(g)
	if want == "rec" && (e != api.OK || recModel(q) != g) {
		t.Errorf("Rec of % x: %v, %v", g, q, e)
	}
	if want != "rec" && (e != api.ErrBytes || q != api.RecParams{}) {
		t.Errorf("Rec of % x, which is %q: %v, %v", g, want, q, e)
	}
	return want
}

// refused is check of bytes that are none's.
func refused(t *testing.T, g api.Granule) {
	t.Helper()
	if k := check(t, g); k != "" {
		t.Errorf("% x should be none's, and is %q", g, k)
	}
}

// unlike is a digest whose bytes all differ, none of them nought.
func unlike() api.Digest {
	var d api.Digest
	for i := range d {
		d[i] = byte(7*i + 3)
	}
	return d
}

// registers are eight numbers of eight bytes, no two of the 64 bytes the same, none of them nought.
func registers() [8]uint64 {
	var r [8]uint64
	for i := range r {
		for j := range 8 {
			r[i] |= uint64(8*i+j+1) << (8 * j)
		}
	}
	return r
}

// rightNodes may be; wrongNodes may not.
func rightNodes() []uint64 {
	return []uint64{0, 128, 256, 384, 1 << 15, 1 << 16, 1<<16 + 128, 1 << 18, 0x7df80, lastNodes - 128, lastNodes}
}

func wrongNodes() []uint64 {
	out := []uint64{
		1, 2, 8, 32, 64, 100, 120, // no multiple, and small
		lastNodes + 128, lastNodes + 256, 4095 * 128, 4096 * 128, 4097 * 128, 1 << 20, // too great
		1 << 32, 1<<32 + 128, 1<<32 + lastNodes, 1 << 56, 1<<56 + 256, // too great, with the lowest bytes of one that is not
		1 << 63, 1<<63 + 128, math.MaxInt64, math.MaxInt64 - 127, // as signed numbers below 0, and the last that are not
		math.MaxUint64, math.MaxUint64 - 127, math.MaxUint64 - 64*128 + 1, // the greatest, and what wraps round by 64 granules
	}
	for _, n := range rightNodes() {
		out = append(out, n+1, n-1) // of 0: the greatest that there is
	}
	return out
}

// rightPCs may be; wrongPCs may not.
func rightPCs() []uint64 {
	return []uint64{0, 8, 16, 24, 248, 256, 264, 32760, 32768, 1 << 32, 1<<32 + 8, 1 << 63, math.MaxInt64 - 7, math.MaxUint64 - 7}
}

func wrongPCs() []uint64 {
	out := []uint64{2, 3, 4, 5, 6, 12, 100, 1<<32 + 4, 1<<63 + 4, math.MaxUint64, math.MaxUint64 - 3}
	for _, n := range rightPCs() {
		out = append(out, n+1, n-1)
	}
	return out
}

// rightRealms are parameters that may be: each Nodes, with Values of noughts, of bytes that all differ, and full.
func rightRealms() []api.RealmParams {
	var full api.Digest
	for i := range full {
		full[i] = 255
	}
	var out []api.RealmParams
	for _, n := range rightNodes() {
		for _, v := range []api.Digest{{}, unlike(), full, {0: 1}, {31: 1}} {
			out = append(out, api.RealmParams{Value: v, Nodes: n})
		}
	}
	return out
}

// rightRecs are parameters that may be: each PC, with Regs of noughts, each by itself, and all, Runnable and not.
func rightRecs() []api.RecParams {
	regs := [][8]uint64{{}, registers()}
	for i := range 8 {
		one, full := [8]uint64{}, [8]uint64{}
		one[i], full[i] = registers()[i], math.MaxUint64
		regs = append(regs, one, full)
	}
	var out []api.RecParams
	for _, pc := range rightPCs() {
		for _, r := range regs {
			out = append(out, api.RecParams{PC: pc, Regs: r}, api.RecParams{PC: pc, Regs: r, Runnable: true})
		}
	}
	return out
}

// P10.1

func TestMayRealm(t *testing.T) {
	for _, v := range []api.Digest{{}, unlike()} {
		for _, n := range rightNodes() {
			if !params.MayRealm(api.RealmParams{Value: v, Nodes: n}) {
				t.Errorf("Nodes %d may be", n)
			}
		}
		for _, n := range wrongNodes() {
			if params.MayRealm(api.RealmParams{Value: v, Nodes: n}) {
				t.Errorf("Nodes %d may not be", n)
			}
		}
	}
}

// Each place in memory, and as many behind it: just 4033 of them may be.
func TestMayRealmOfEachPlace(t *testing.T) {
	many := 0
	for n := range uint64(2 * 4096 * 128) {
		if params.MayRealm(api.RealmParams{Nodes: n}) {
			if n != uint64(128*many) {
				t.Errorf("Nodes %d may not be", n)
			}
			many++
		}
	}
	if many != 4033 {
		t.Error(many)
	}
}

func TestMayRec(t *testing.T) {
	for _, runnable := range []bool{false, true} {
		for _, r := range [][8]uint64{{}, registers()} {
			for _, pc := range rightPCs() {
				if !params.MayRec(api.RecParams{PC: pc, Regs: r, Runnable: runnable}) {
					t.Errorf("PC %d may be", pc)
				}
			}
			for _, pc := range wrongPCs() {
				if params.MayRec(api.RecParams{PC: pc, Regs: r, Runnable: runnable}) {
					t.Errorf("PC %d may not be", pc)
				}
			}
		}
	}
}

func TestMayRecOfEachBit(t *testing.T) {
	for i := range 64 {
		if may := params.MayRec(api.RecParams{PC: 1 << i}); may != (i >= 3) {
			t.Errorf("PC 1 << %d: %v", i, may)
		}
	}
}

// P10.2

func TestRealmBytes(t *testing.T) {
	for _, p := range rightRealms() {
		if g, e := params.RealmBytes(p); e != api.OK || g != realmModel(p) {
			t.Errorf("%v: % x, %v", p, g, e)
		}
	}
}

func TestRecBytes(t *testing.T) {
	for _, p := range rightRecs() {
		if g, e := params.RecBytes(p); e != api.OK || g != recModel(p) {
			t.Errorf("%v: % x, %v", p, g, e)
		}
	}
}

// Where each byte stands, written out: the model and the program may not err together.
func TestRealmBytesByHand(t *testing.T) {
	want := api.Granule{
		'r', 'e', 'a', 'l', 'm', 0, 0, 0,
		1, 2, 3, 4, 5, 6, 7, 8, 9, 10, 11, 12, 13, 14, 15, 16,
		17, 18, 19, 20, 21, 22, 23, 24, 25, 26, 27, 28, 29, 30, 31, 32,
		0x80, 0x56, 0x04, 0, 0, 0, 0, 0,
	}
	p := api.RealmParams{Nodes: 0x45680}
	for i := range p.Value {
		p.Value[i] = byte(i + 1)
	}
	if g, e := params.RealmBytes(p); e != api.OK || g != want {
		t.Errorf("% x, %v", g, e)
	}
	if x, e := params.Realm(want); e != api.OK || x != p {
		t.Error(x, e)
	}
}

func TestRecBytesByHand(t *testing.T) {
	want := api.Granule{
		'r', 'e', 'c', 0, 0, 0, 0, 0,
		0xf8, 0xf7, 0xf6, 0xf5, 0xf4, 0xf3, 0xf2, 0xf1,
		1, 2, 3, 4, 5, 6, 7, 8, 9, 10, 11, 12, 13, 14, 15, 16,
		17, 18, 19, 20, 21, 22, 23, 24, 25, 26, 27, 28, 29, 30, 31, 32,
		33, 34, 35, 36, 37, 38, 39, 40, 41, 42, 43, 44, 45, 46, 47, 48,
		49, 50, 51, 52, 53, 54, 55, 56, 57, 58, 59, 60, 61, 62, 63, 64,
		1,
	}
	p := api.RecParams{PC: 0xf1f2f3f4f5f6f7f8, Regs: [8]uint64{
		0x0807060504030201, 0x100f0e0d0c0b0a09, 0x1817161514131211, 0x201f1e1d1c1b1a19,
		0x2827262524232221, 0x302f2e2d2c2b2a29, 0x3837363534333231, 0x403f3e3d3c3b3a39,
	}, Runnable: true}
	if g, e := params.RecBytes(p); e != api.OK || g != want {
		t.Errorf("% x, %v", g, e)
	}
	if x, e := params.Rec(want); e != api.OK || x != p {
		t.Error(x, e)
	}
	p.Runnable, want[80] = false, 0
	if g, e := params.RecBytes(p); e != api.OK || g != want {
		t.Errorf("% x, %v", g, e)
	}
	if x, e := params.Rec(want); e != api.OK || x != p {
		t.Error(x, e)
	}
}

// The chapter's table.
func TestExamples(t *testing.T) {
	g, e := params.RecBytes(api.RecParams{PC: 8, Runnable: true})
	if e != api.OK || string(g[:3]) != "rec" || g[8] != 8 || g[80] != 1 {
		t.Errorf("% x, %v", g, e)
	}
	if g, e := params.RealmBytes(api.RealmParams{Nodes: 100}); e != api.ErrArg || g != (api.Granule{}) {
		t.Errorf("% x, %v", g, e)
	}
	if p, e := params.Rec(api.Granule{}); e != api.ErrBytes || p != (api.RecParams{}) {
		t.Error(p, e)
	}
}

func TestBytesOfWhatMayNotBe(t *testing.T) {
	for _, n := range wrongNodes() {
		if g, e := params.RealmBytes(api.RealmParams{Value: unlike(), Nodes: n}); e != api.ErrArg || g != (api.Granule{}) {
			t.Errorf("Nodes %d: % x, %v", n, g, e)
		}
	}
	for _, pc := range wrongPCs() {
		if g, e := params.RecBytes(api.RecParams{PC: pc, Regs: registers(), Runnable: true}); e != api.ErrArg || g != (api.Granule{}) {
			t.Errorf("PC %d: % x, %v", pc, g, e)
		}
	}
}

// P10.3

func TestRead(t *testing.T) {
	for _, p := range rightRealms() {
		g := realmModel(p)
		if x, e := params.Realm(g); e != api.OK || x != p || params.Kind(g) != "realm" {
			t.Errorf("%v: %v, %v, %q", p, x, e, params.Kind(g))
		}
		check(t, g)
	}
	for _, p := range rightRecs() {
		g := recModel(p)
		if x, e := params.Rec(g); e != api.OK || x != p || params.Kind(g) != "rec" {
			t.Errorf("%v: %v, %v, %q", p, x, e, params.Kind(g))
		}
		check(t, g)
	}
}

func TestReadNoughts(t *testing.T) {
	refused(t, api.Granule{})
	for i := range 128 {
		for _, c := range []byte{1, 'r', 128, 255} {
			var g api.Granule
			g[i] = c
			refused(t, g)
		}
	}
}

// Bytes of parameters that may not be, written by hand.
func TestReadWhatMayNotBe(t *testing.T) {
	for _, n := range wrongNodes() {
		for _, v := range []api.Digest{{}, unlike()} {
			refused(t, realmModel(api.RealmParams{Value: v, Nodes: n}))
		}
	}
	for _, pc := range wrongPCs() {
		for _, r := range [][8]uint64{{}, registers()} {
			refused(t, recModel(api.RecParams{PC: pc, Regs: r}))
			refused(t, recModel(api.RecParams{PC: pc, Regs: r, Runnable: true}))
		}
	}
}

// samples are right bytes: few, for what is done to each byte of them.
func samples() []api.Granule {
	return []api.Granule{
		realmModel(api.RealmParams{}),
		realmModel(api.RealmParams{Value: unlike(), Nodes: lastNodes}),
		recModel(api.RecParams{}),
		recModel(api.RecParams{PC: 0xf1f2f3f4f5f6f7f8, Regs: registers()}),
		recModel(api.RecParams{PC: math.MaxUint64 - 7, Regs: registers(), Runnable: true}),
	}
}

// Each byte, as each other one: in the name, behind it, in each field, and behind the last one.
func TestReadEachByte(t *testing.T) {
	for _, g := range samples() {
		kind, end := check(t, g), recEnd
		if kind == "realm" {
			end = realmEnd
		}
		for i := range 128 {
			for c := range 256 {
				b := g
				b[i] = byte(c)
				if b == g {
					continue
				}
				if i < 8 || i >= end {
					refused(t, b)
				} else {
					check(t, b)
				}
			}
		}
	}
}

func TestReadRunnable(t *testing.T) {
	g := recModel(api.RecParams{PC: 8, Regs: registers()})
	for c := range 256 {
		b := g
		b[80] = byte(c)
		p, e := params.Rec(b)
		switch {
		case c > 1 && (e != api.ErrBytes || p != api.RecParams{} || params.Kind(b) != ""):
			t.Error(c, p, e)
		case c < 2 && (e != api.OK || p.Runnable != (c == 1) || p.Regs != registers() || params.Kind(b) != "rec"):
			t.Error(c, p, e)
		}
	}
}

// Names that are another's, or none's, in front of what would be right behind them.
func TestReadOtherNames(t *testing.T) {
	for _, g := range samples() {
		for _, name := range []string{
			"", "r", "re", "rea", "real", "realms", "realm\x00s", "realm\x00\x00s", "realmrea", "realm   ", "Realm", "REALM", "\x00realm", "mlaer", "   realm",
			"recs", "rec\x00s", "rec\x00\x00\x00\x00s", "rec\x00realm", "recrecre", "rec     ", "Rec", "REC", "\x00rec", "cer", "     rec", "realmrec", "recrealm",
		} {
			b := g
			copy(b[:8], make([]byte, 8))
			copy(b[:8], name)
			refused(t, b)
		}
	}
}

// A realm's bytes under a vCPU's name, and the other way round: none's, unless they are right by chance.
func TestReadNamesTurned(t *testing.T) {
	for _, p := range rightRealms() {
		g := realmModel(p)
		copy(g[:8], "rec\x00\x00\x00\x00\x00")
		check(t, g)
	}
	for _, p := range rightRecs() {
		g := recModel(p)
		copy(g[:8], "realm\x00\x00\x00")
		check(t, g)
	}
	g := realmModel(api.RealmParams{Value: unlike()})
	copy(g[:8], "rec\x00\x00\x00\x00\x00")
	refused(t, g) // its first word would be the PC, and is no multiple of 8
	g = recModel(api.RecParams{Regs: registers()})
	copy(g[:8], "realm\x00\x00\x00")
	refused(t, g) // a register stands behind the last byte
}

func TestReadDrawn(t *testing.T) {
	r := rand.New(rand.NewSource(10))
	for range 20000 {
		var g api.Granule
		r.Read(g[:])
		refused(t, g)
		copy(g[:8], "realm\x00\x00\x00")
		check(t, g)
		copy(g[:8], "rec\x00\x00\x00\x00\x00")
		check(t, g)
	}
}

// Drawn so that what is right, and what is wrong by one thing, are both common.
func TestReadDrawnNearly(t *testing.T) {
	r := rand.New(rand.NewSource(11))
	seen := map[string]int{}
	for range 60000 {
		var g api.Granule
		if r.Intn(2) == 0 {
			g = realmModel(drawnRealm(r))
		} else {
			g = recModel(drawnRec(r))
		}
		for range r.Intn(3) {
			g[r.Intn(128)] ^= 1 << r.Intn(8)
		}
		seen[check(t, g)]++
	}
	for _, k := range []string{"realm", "rec", ""} {
		if seen[k] < 1000 {
			t.Errorf("%q was drawn %d times", k, seen[k])
		}
	}
}

// P10.4

// drawnRealm and drawnRec are parameters that may be.
func drawnRealm(r *rand.Rand) api.RealmParams {
	p := api.RealmParams{Nodes: 128 * uint64(r.Intn(4033))}
	r.Read(p.Value[:])
	return p
}

func drawnRec(r *rand.Rand) api.RecParams {
	p := api.RecParams{PC: r.Uint64() &^ 7, Runnable: r.Intn(2) == 1}
	for i := range p.Regs {
		p.Regs[i] = r.Uint64() >> r.Intn(64)
	}
	return p
}

func TestReadIsWhatWasWritten(t *testing.T) {
	r := rand.New(rand.NewSource(12))
	for range 20000 {
		p, q := drawnRealm(r), drawnRec(r)
		g, e := params.RealmBytes(p)
		if x, f := params.Realm(g); e != api.OK || f != api.OK || x != p {
			t.Errorf("%v: %v; %v, %v", p, e, x, f)
		}
		h, e := params.RecBytes(q)
		if x, f := params.Rec(h); e != api.OK || f != api.OK || x != q {
			t.Errorf("%v: %v; %v, %v", q, e, x, f)
		}
	}
}

// What is drawn anywhere is written just if it may be, and then read as it was.
func TestWrittenJustIfItMayBe(t *testing.T) {
	r := rand.New(rand.NewSource(13))
	for range 20000 {
		p := api.RealmParams{Value: unlike(), Nodes: r.Uint64() >> r.Intn(64) << r.Intn(12)}
		g, e := params.RealmBytes(p)
		if may := p.Nodes&127 == 0 && p.Nodes <= lastNodes; params.MayRealm(p) != may || (e == api.OK) != may {
			t.Errorf("%v: %v, %v", p, params.MayRealm(p), e)
		} else if x, _ := params.Realm(g); may && x != p {
			t.Errorf("%v: %v", p, x)
		}
		q := api.RecParams{PC: r.Uint64() >> r.Intn(64) << r.Intn(5), Regs: registers()}
		h, e := params.RecBytes(q)
		if may := q.PC&7 == 0; params.MayRec(q) != may || (e == api.OK) != may {
			t.Errorf("%v: %v, %v", q, params.MayRec(q), e)
		} else if x, _ := params.Rec(h); may && x != q {
			t.Errorf("%v: %v", q, x)
		}
	}
}

// Unlike parameters have unlike bytes, for what is read is what was written; and none are both's.
func TestNoBytesAreBoth(t *testing.T) {
	realms, recs := map[api.Granule]api.RealmParams{}, map[api.Granule]api.RecParams{}
	for _, p := range rightRealms() {
		g, _ := params.RealmBytes(p)
		if x, ok := realms[g]; ok && x != p {
			t.Errorf("%v and %v have the same bytes", x, p)
		}
		realms[g] = p
		if x, e := params.Rec(g); e != api.ErrBytes || x != (api.RecParams{}) {
			t.Errorf("%v: a vCPU's as well: %v, %v", p, x, e)
		}
	}
	for _, p := range rightRecs() {
		g, _ := params.RecBytes(p)
		if x, ok := recs[g]; ok && x != p {
			t.Errorf("%v and %v have the same bytes", x, p)
		}
		recs[g] = p
		if _, ok := realms[g]; ok {
			t.Errorf("%v has a realm's bytes", p)
		}
		if x, e := params.Realm(g); e != api.ErrBytes || x != (api.RealmParams{}) {
			t.Errorf("%v: a realm's as well: %v, %v", p, x, e)
		}
	}
}
