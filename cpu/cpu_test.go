package cpu_test

import (
	"math"
	"math/rand"
	"slices"
	"strings"
	"testing"

	"anchorite/api"
	"anchorite/cpu"
)

// ins is an instruction, part by part.
func ins(op api.CpuOp, d, a, b int, imm int64) api.CpuIns {
	return api.CpuIns{Op: op, D: d, A: a, B: b, Imm: imm}
}

// known are an instruction of each operation, its word and its text, written out: the model and the program may not err together.
var known = []struct {
	i api.CpuIns
	w uint64
	s string
}{
	{ins(1, 0, 0, 0, 0), 0x00000000_00000001, "nop"},
	{ins(2, 1, 0, 0, -1), 0xffffffff_00000102, "set r1 -1"},
	{ins(2, 7, 0, 0, 2147483647), 0x7fffffff_00000702, "set r7 2147483647"},
	{ins(2, 0, 0, 0, -2147483648), 0x80000000_00000002, "set r0 -2147483648"},
	{ins(3, 2, 3, 0, 0), 0x00000000_00030203, "mov r2 r3"},
	{ins(4, 0, 1, 2, 0), 0x00000000_02010004, "add r0 r1 r2"},
	{ins(5, 1, 2, 3, 0), 0x00000000_03020105, "sub r1 r2 r3"},
	{ins(6, 2, 3, 4, 0), 0x00000000_04030206, "xor r2 r3 r4"},
	{ins(7, 3, 4, 5, 0), 0x00000000_05040307, "and r3 r4 r5"},
	{ins(8, 4, 5, 6, 0), 0x00000000_06050408, "mul r4 r5 r6"},
	{ins(9, 5, 6, 7, 0), 0x00000000_07060509, "shl r5 r6 r7"},
	{ins(10, 6, 7, 0, 0), 0x00000000_0007060a, "shr r6 r7 r0"},
	{ins(11, 0, 1, 0, -8), 0xfffffff8_0001000b, "load r0 r1 -8"},
	{ins(12, 0, 1, 2, 16), 0x00000010_0201000c, "store r1 r2 16"},
	{ins(13, 0, 0, 0, -8), 0xfffffff8_0000000d, "jump -8"},
	{ins(14, 0, 4, 0, 258), 0x00000102_0004000e, "branch r4 258"},
	{ins(15, 5, 0, 0, 0), 0x00000000_0000050f, "entropy r5"},
	{ins(16, 0, 0, 0, 0), 0x00000000_00000010, "service 0"},
	{ins(16, 0, 0, 0, 3), 0x00000003_00000010, "service 3"},
	{ins(17, 0, 0, 0, 0), 0x00000000_00000011, "stop"},
}

func TestKnown(t *testing.T) {
	seen := 0
	for _, k := range known {
		if !check(t, k.i) || wordModel(k.i) != k.w || textModel(k.i) != k.s {
			t.Error(k.i, k.w, k.s)
		}
		if i, e := cpu.Decode(k.w); i != k.i || e != api.OK {
			t.Error(k.s, i, e)
		}
		if i, e := cpu.Untext(k.s); i != k.i || e != api.OK {
			t.Error(k.s, i, e)
		}
		seen |= 1 << k.i.Op
	}
	if seen != 1<<18-2 {
		t.Errorf("not each operation: %b", seen)
	}
}

// The numbers of kinds and operations are the chapter's.
func TestNumbers(t *testing.T) {
	ops := []api.CpuOp{api.CpuNop, api.CpuSet, api.CpuMov, api.CpuAdd, api.CpuSub, api.CpuXor, api.CpuAnd, api.CpuMul, api.CpuShl, api.CpuShr, api.CpuLoad, api.CpuStore, api.CpuJump, api.CpuBranch, api.CpuEntropy, api.CpuService, api.CpuStop}
	if !slices.Equal(ops, allOps()) || api.MaxProgram != 512 {
		t.Error(ops, api.MaxProgram)
	}
}

// The chapter's examples.
func TestExamples(t *testing.T) {
	if w, e := cpu.Encode(api.CpuIns{Op: api.CpuSet, D: 1, Imm: -1}); w != 2+256+(1<<32-1)*(1<<32) || e != api.OK {
		t.Error(w, e)
	}
	for _, w := range []uint64{0, 2 + 256*8} {
		if i, e := cpu.Decode(w); i != (api.CpuIns{}) || e != api.ErrBytes {
			t.Error(w, i, e)
		}
	}
	c := api.Cpu{Regs: [8]uint64{1: 16}}
	if n := cpu.Needs(c, api.CpuIns{Op: api.CpuLoad, A: 1, Imm: -8}); n != (api.Need{Kind: api.NeedLoad, Addr: 8}) {
		t.Error(n)
	}
	if o, e := cpu.Do(api.Cpu{PC: 8}, api.CpuIns{Op: api.CpuJump, Imm: -8}, 0); o != (api.Cpu{}) || e != (api.Event{}) {
		t.Error(o, e)
	}
	if i, e := cpu.Untext("add r0 r1 r2"); i != (api.CpuIns{Op: api.CpuAdd, A: 1, B: 2}) || e != api.OK {
		t.Error(i, e)
	}
	for _, s := range []string{"add r0 r1", "set r0 +1"} {
		if i, e := cpu.Untext(s); i != (api.CpuIns{}) || e != api.ErrBytes {
			t.Error(s, i, e)
		}
	}
}

// P13.1

func TestRight(t *testing.T) {
	for _, i := range right() {
		if !check(t, i) {
			t.Error("none", i)
		}
		checkWord(t, wordModel(i))
	}
}

func TestDecodeOfAnyWord(t *testing.T) {
	r := rand.New(rand.NewSource(13))
	for range 100000 {
		checkWord(t, r.Uint64())
		checkWord(t, wordModel(anyRight(r)))
		// Few bits but Imm's: often a word that is one's.
		checkWord(t, r.Uint64()&0xffffffff_07070700|uint64(r.Intn(20)))
	}
}

// P13.2

// What each operation does, written out.
func TestDone(t *testing.T) {
	const top = 1 << 63
	c := api.Cpu{Regs: [8]uint64{0, 1, 12, 10, top, math.MaxUint64, 63, 64}, PC: 4096}
	for _, x := range []struct {
		s    string
		reg  int
		want uint64
	}{
		{"set r0 5", 0, 5},
		{"set r7 -1", 7, math.MaxUint64},
		{"set r1 -2147483648", 1, 0xffffffff_80000000},
		{"set r1 2147483647", 1, 0x7fffffff},
		{"mov r0 r5", 0, math.MaxUint64},
		{"mov r7 r7", 7, 64},
		{"add r0 r2 r3", 0, 22},
		{"add r0 r5 r1", 0, 0},
		{"add r4 r4 r4", 4, 0},
		{"add r7 r5 r5", 7, math.MaxUint64 - 1},
		{"sub r0 r2 r3", 0, 2},
		{"sub r1 r0 r1", 1, math.MaxUint64},
		{"sub r3 r3 r2", 3, math.MaxUint64 - 1},
		{"sub r0 r5 r5", 0, 0},
		{"xor r0 r2 r3", 0, 6},
		{"xor r0 r5 r4", 0, top - 1},
		{"and r0 r2 r3", 0, 8},
		{"and r5 r5 r4", 5, top},
		{"mul r0 r2 r3", 0, 120},
		{"mul r0 r5 r5", 0, 1},
		{"mul r0 r4 r2", 0, 0},
		{"mul r0 r5 r2", 0, math.MaxUint64 - 11},
		{"shl r3 r2 r0", 3, 12},
		{"shl r0 r2 r1", 0, 24},
		{"shl r0 r1 r6", 0, top},
		{"shl r0 r2 r6", 0, 0},
		{"shl r0 r2 r7", 0, 12},
		{"shl r0 r3 r5", 0, 0},
		{"shl r0 r1 r5", 0, top},
		{"shr r3 r2 r0", 3, 12},
		{"shr r0 r2 r1", 0, 6},
		{"shr r0 r4 r6", 0, 1},
		{"shr r0 r5 r6", 0, 1},
		{"shr r0 r5 r7", 0, math.MaxUint64},
		{"shr r0 r4 r5", 0, 1},
		{"shr r0 r2 r5", 0, 0},
		{"load r0 r2 8", 0, 77},
		{"load r2 r2 8", 2, 77},
	} {
		i, _ := cpu.Untext(x.s)
		want := c
		want.Regs[x.reg], want.PC = x.want, 4104
		if o, e := cpu.Do(c, i, 77); o != want || e != (api.Event{}) {
			t.Error(x.s, o, e)
		}
		checkDone(t, c, i, 77)
	}
}

// What changes no register, written out.
func TestDoneWithoutRegisters(t *testing.T) {
	c := api.Cpu{Regs: [8]uint64{0, 1, 12, 10, 1 << 63, math.MaxUint64, 63, 64}, PC: 16}
	for _, x := range []struct {
		s    string
		pc   uint64
		want api.Event
	}{
		{"nop", 24, api.Event{}},
		{"store r1 r2 8", 24, api.Event{}},
		{"jump 0", 16, api.Event{}},
		{"jump 1", 17, api.Event{}},
		{"jump -16", 0, api.Event{}},
		{"jump -17", math.MaxUint64, api.Event{}},
		{"jump -2147483648", 0xffffffff_80000010, api.Event{}},
		{"jump 2147483647", 0x8000000f, api.Event{}},
		{"branch r0 64", 24, api.Event{}},
		{"branch r1 64", 80, api.Event{}},
		{"branch r1 0", 16, api.Event{}},
		{"branch r4 -16", 0, api.Event{}},
		{"branch r5 -24", math.MaxUint64 - 7, api.Event{}},
		{"entropy r0", 24, api.Event{Kind: api.EvEntropy}},
		{"entropy r7", 24, api.Event{Kind: api.EvEntropy, Number: 7}},
		{"service 0", 24, api.Event{Kind: api.EvService}},
		{"service 1", 24, api.Event{Kind: api.EvService, Number: 1}},
		{"service 2147483647", 24, api.Event{Kind: api.EvService, Number: 2147483647}},
		{"stop", 16, api.Event{Kind: api.EvStop}},
	} {
		i, _ := cpu.Untext(x.s)
		if o, e := cpu.Do(c, i, 77); o.PC != x.pc || o.Regs != c.Regs || e != x.want {
			t.Error(x.s, o, e)
		}
		checkDone(t, c, i, 77)
	}
}

// Needs, written out.
func TestNeeded(t *testing.T) {
	c := api.Cpu{Regs: [8]uint64{0, 16, 12, 10, 1 << 63, math.MaxUint64, 63, 64}, PC: 8}
	for s, want := range map[string]api.Need{
		"load r5 r0 0":           {Kind: api.NeedLoad},
		"load r5 r1 8":           {Kind: api.NeedLoad, Addr: 24},
		"load r5 r1 -24":         {Kind: api.NeedLoad, Addr: math.MaxUint64 - 7},
		"load r5 r5 1":           {Kind: api.NeedLoad},
		"load r5 r0 -2147483648": {Kind: api.NeedLoad, Addr: 0xffffffff_80000000},
		"load r5 r5 2147483647":  {Kind: api.NeedLoad, Addr: 0x7ffffffe},
		"store r0 r0 0":          {Kind: api.NeedStore},
		"store r1 r2 8":          {Kind: api.NeedStore, Addr: 24, Word: 12},
		"store r2 r1 -12":        {Kind: api.NeedStore, Word: 16},
		"store r0 r4 -1":         {Kind: api.NeedStore, Addr: math.MaxUint64, Word: 1 << 63},
		"store r5 r5 2147483647": {Kind: api.NeedStore, Addr: 0x7ffffffe, Word: math.MaxUint64},
	} {
		i, _ := cpu.Untext(s)
		if n := cpu.Needs(c, i); n != want {
			t.Error(s, n)
		}
	}
	for _, i := range right() {
		if n := cpu.Needs(c, i); n != (api.Need{}) && i.Op != api.CpuLoad && i.Op != api.CpuStore {
			t.Error(i, n)
		}
	}
}

// Each operation with all pairs of edges, in registers apart and in one alone.
func TestDoneAtEdges(t *testing.T) {
	places := [][3]int{{0, 1, 2}, {7, 6, 5}, {3, 3, 4}, {3, 4, 3}, {3, 4, 4}, {0, 0, 0}, {7, 7, 7}}
	for _, op := range allOps() {
		for n, imm := range imms(op) {
			for _, a := range edgeWords() {
				for m, b := range edgeWords() {
					p := places[(n+m)%len(places)]
					i := api.CpuIns{Op: op, Imm: imm}
					for part, at := range map[string]*int{"d": &i.D, "a": &i.A, "b": &i.B} {
						if has(op, part) {
							*at = p[strings.Index("dab", part)]
						}
					}
					c := api.Cpu{Regs: [8]uint64{10, 11, 12, 13, 14, 15, 16, 17}, PC: b}
					c.Regs[p[2]] = b
					c.Regs[p[1]] = a
					checkDone(t, c, i, a^b)
				}
			}
		}
	}
}

func TestDoneOfAll(t *testing.T) {
	r := rand.New(rand.NewSource(131))
	for _, i := range right() {
		checkDone(t, anyState(r), i, anyWord(r))
	}
	for range 50000 {
		checkDone(t, anyState(r), anyRight(r), anyWord(r))
	}
}

// Where the next instruction stands, over the end and below 0.
func TestPC(t *testing.T) {
	for _, i := range someRight() {
		for _, pc := range edgeWords() {
			for _, a := range []uint64{0, 1, math.MaxUint64} {
				c := api.Cpu{PC: pc}
				for n := range c.Regs {
					c.Regs[n] = a
				}
				checkDone(t, c, i, 3)
			}
		}
	}
}

// What is loaded counts of a load alone.
func TestLoaded(t *testing.T) {
	r := rand.New(rand.NewSource(132))
	for _, i := range someRight() {
		c := anyState(r)
		x, e := cpu.Do(c, i, 1)
		y, f := cpu.Do(c, i, 2)
		if i.Op == api.CpuLoad && (x.Regs[i.D] != 1 || y.Regs[i.D] != 2) {
			t.Error(i, x, y)
		}
		if i.Op != api.CpuLoad && (x != y || e != f) {
			t.Error(i, x, y, e, f)
		}
	}
}

func TestGive(t *testing.T) {
	r := rand.New(rand.NewSource(133))
	for reg := range 8 {
		for _, x := range edgeWords() {
			c := anyState(r)
			want := c
			want.Regs[reg] = x
			was := c
			if o, e := cpu.Give(c, reg, x); o != want || e != api.OK {
				t.Error(reg, x, o, e)
			}
			if c != was {
				t.Error("changed", c, was)
			}
		}
	}
}

// P13.3

func TestTexts(t *testing.T) {
	for _, i := range right() {
		if !checkText(t, textModel(i)) {
			t.Error("none", i)
		}
	}
	r := rand.New(rand.NewSource(134))
	for range 20000 {
		checkText(t, textModel(anyRight(r)))
	}
}

// repeated is a text of n lines, none wrong, the last one with its end or without.
func repeated(n int, end string) string {
	var lines []string
	for at := range n {
		lines = append(lines, known[at%len(known)].s)
	}
	return strings.Join(lines, "\n") + end
}

func TestProgram(t *testing.T) {
	l, n, e := cpu.Program("set r0 3\nset r1 1\nsub r0 r0 r1\nbranch r0 -8\nstop\n")
	want := []uint64{0x00000003_00000002, 0x00000001_00000102, 0x00000000_01000005, 0xfffffff8_0000000e, 17}
	if !slices.Equal(l, want) || n != 0 || e != api.OK {
		t.Error(l, n, e)
	}
	for _, n := range []int{1, 2, 3, 17, 100, 511, 512} {
		for _, end := range []string{"", "\n"} {
			if e := checkProgram(t, repeated(n, end)); e != api.OK {
				t.Error(n, e)
			}
			if l, _, _ := cpu.Program(repeated(n, end)); len(l) != n {
				t.Error(n, len(l))
			}
		}
	}
}

func TestProgramOfNothing(t *testing.T) {
	if l, n, e := cpu.Program(""); len(l) != 0 || n != 0 || e != api.OK {
		t.Error(l, n, e)
	}
}

// The end of the last line counts as none more: neither a line, nor a word.
func TestProgramsEnd(t *testing.T) {
	for _, k := range known {
		for _, end := range []string{"", "\n"} {
			if l, n, e := cpu.Program(k.s + end); !slices.Equal(l, []uint64{k.w}) || n != 0 || e != api.OK {
				t.Error(k.s, l, n, e)
			}
		}
	}
}

func TestListing(t *testing.T) {
	if s, e := cpu.Listing(); s != "" || e != api.OK {
		t.Error(s, e)
	}
	if s, e := cpu.Listing(2, 0xffffffff_00000102, 17); s != "set r0 0\nset r1 -1\nstop\n" || e != api.OK {
		t.Error(s, e)
	}
	var words []uint64
	for _, i := range right() {
		words = append(words, wordModel(i))
	}
	for _, n := range []int{1, 2, 511, 512} {
		for from := 0; from+n <= len(words) && from < 7*n; from += n {
			want := ""
			for _, w := range words[from : from+n] {
				want += textModel(unwordModel(w)) + "\n"
			}
			if s, e := cpu.Listing(words[from : from+n]...); s != want || e != api.OK {
				t.Error(n, from, s, e)
			}
		}
	}
}

// P13.4

func TestThereAndBack(t *testing.T) {
	r := rand.New(rand.NewSource(135))
	l := right()
	for range 20000 {
		l = append(l, anyRight(r))
	}
	words, texts := map[uint64]api.CpuIns{}, map[string]api.CpuIns{}
	for _, i := range l {
		w, _ := cpu.Encode(i)
		if x, e := cpu.Decode(w); x != i || e != api.OK {
			t.Error(i, x, e)
		}
		s, _ := cpu.Text(i)
		if x, e := cpu.Untext(s); x != i || e != api.OK {
			t.Error(i, x, e)
		}
		if x, is := words[w]; is && x != i {
			t.Error("one word", x, i)
		}
		if x, is := texts[s]; is && x != i {
			t.Error("one text", x, i)
		}
		words[w], texts[s] = i, i
	}
}

func TestProgramOfListing(t *testing.T) {
	r := rand.New(rand.NewSource(136))
	for _, n := range []int{0, 1, 2, 3, 50, 511, 512} {
		for range 20 {
			words := make([]uint64, n)
			for at := range words {
				words[at] = wordModel(anyRight(r))
			}
			s, e := cpu.Listing(words...)
			if e != api.OK || strings.Count(s, "\n") != n {
				t.Fatal(n, e)
			}
			for _, text := range []string{s, strings.TrimSuffix(s, "\n")} {
				if l, at, e := cpu.Program(text); !slices.Equal(l, words) || at != 0 || e != api.OK {
					t.Error(n, l, at, e)
				}
			}
		}
	}
}

// At most one register is another behind an instruction: the one that D names.
func TestOneRegister(t *testing.T) {
	r := rand.New(rand.NewSource(137))
	l := right()
	for range 20000 {
		l = append(l, anyRight(r))
	}
	for _, i := range l {
		c := anyState(r)
		o, e := cpu.Do(c, i, r.Uint64())
		for n := range c.Regs {
			mayChange := n == i.D && has(i.Op, "d") && e.Kind == api.EvNone
			if o.Regs[n] != c.Regs[n] && !mayChange {
				t.Error(i, n, c, o)
			}
		}
	}
}
