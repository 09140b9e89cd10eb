package cpu_test

import (
	"bytes"
	"encoding/binary"
	"fmt"
	"math"
	"math/big"
	"math/rand"
	"regexp"
	"slices"
	"strconv"
	"strings"
	"testing"

	"anchorite/api"
	"anchorite/cpu"
)

const (
	lowImm  = -2147483648
	highImm = 2147483647
)

// form is a line of the chapter's table: what an operation names, and its name.
type form struct {
	name string
	has  string // of "dabi"
	low  int64  // the lowest Imm, where it is named
}

// forms stand each at its operation's number.
var forms = []form{
	{},
	{"nop", "", 0},
	{"set", "di", lowImm},
	{"mov", "da", 0},
	{"add", "dab", 0},
	{"sub", "dab", 0},
	{"xor", "dab", 0},
	{"and", "dab", 0},
	{"mul", "dab", 0},
	{"shl", "dab", 0},
	{"shr", "dab", 0},
	{"load", "dai", lowImm},
	{"store", "abi", lowImm},
	{"jump", "i", lowImm},
	{"branch", "ai", lowImm},
	{"entropy", "d", 0},
	{"service", "i", 0},
	{"stop", "", 0},
}

// allOps are the operations that there are.
func allOps() []api.CpuOp {
	var out []api.CpuOp
	for op := 1; op < len(forms); op++ {
		out = append(out, api.CpuOp(op))
	}
	return out
}

func has(op api.CpuOp, part string) bool { return strings.Contains(forms[op].has, part) }

// mayModel goes over one part after the other.
func mayModel(i api.CpuIns) bool {
	if i.Op < 1 || i.Op > 17 {
		return false
	}
	for part, x := range map[string]int{"d": i.D, "a": i.A, "b": i.B} {
		if has(i.Op, part) && (x < 0 || x > 7) || !has(i.Op, part) && x != 0 {
			return false
		}
	}
	if has(i.Op, "i") {
		return i.Imm >= forms[i.Op].low && i.Imm <= highImm
	}
	return i.Imm == 0
}

// wordModel is the word of one that may be, byte by byte.
func wordModel(i api.CpuIns) uint64 {
	b := []byte{byte(i.Op), byte(i.D), byte(i.A), byte(i.B)}
	return binary.LittleEndian.Uint64(binary.LittleEndian.AppendUint32(b, uint32(int32(i.Imm))))
}

// unwordModel is what stands in a word, whether it may be or not.
func unwordModel(w uint64) api.CpuIns {
	b := binary.LittleEndian.AppendUint64(nil, w)
	var imm int32
	if err := binary.Read(bytes.NewReader(b[4:]), binary.LittleEndian, &imm); err != nil {
		panic(err)
	}
	return api.CpuIns{Op: api.CpuOp(b[0]), D: int(b[1]), A: int(b[2]), B: int(b[3]), Imm: int64(imm)}
}

// textModel is the text of one that may be.
func textModel(i api.CpuIns) string {
	s := forms[i.Op].name
	for _, part := range forms[i.Op].has {
		switch part {
		case 'd':
			s += fmt.Sprintf(" r%d", i.D)
		case 'a':
			s += fmt.Sprintf(" r%d", i.A)
		case 'b':
			s += fmt.Sprintf(" r%d", i.B)
		case 'i':
			s += fmt.Sprintf(" %d", i.Imm)
		}
	}
	return s
}

// patterns are what each operation's texts look like, but for the bounds of their numbers.
var patterns = func() []*regexp.Regexp {
	out := []*regexp.Regexp{nil}
	for _, f := range forms[1:] {
		s := `\A` + f.name
		for _, part := range f.has {
			if part == 'i' {
				s += ` (0|-?[1-9][0-9]*)`
			} else {
				s += ` r([0-7])`
			}
		}
		out = append(out, regexp.MustCompile(s+`\z`))
	}
	return out
}()

// untextModel is the instruction of a text, and whether there is one.
func untextModel(s string) (api.CpuIns, bool) {
	for op, p := range patterns {
		if p == nil {
			continue
		}
		l := p.FindStringSubmatch(s)
		if l == nil {
			continue
		}
		i := api.CpuIns{Op: api.CpuOp(op)}
		for n, part := range forms[op].has {
			x, err := strconv.ParseInt(l[n+1], 10, 64)
			if err != nil {
				return api.CpuIns{}, false
			}
			switch part {
			case 'd':
				i.D = int(x)
			case 'a':
				i.A = int(x)
			case 'b':
				i.B = int(x)
			case 'i':
				i.Imm = x
			}
		}
		return i, mayModel(i)
	}
	return api.CpuIns{}, false
}

// modulo is x modulo 2^64, reckoned with numbers that have no bound.
func modulo(x *big.Int) uint64 {
	return new(big.Int).Mod(x, new(big.Int).Lsh(big.NewInt(1), 64)).Uint64()
}

func number(x uint64) *big.Int { return new(big.Int).SetUint64(x) }

// plus is x + n modulo 2^64.
func plus(x uint64, n int64) uint64 { return modulo(new(big.Int).Add(number(x), big.NewInt(n))) }

// needsModel is what one that may be needs.
func needsModel(c api.Cpu, i api.CpuIns) api.Need {
	switch forms[i.Op].name {
	case "load":
		return api.Need{Kind: 1, Addr: plus(c.Regs[i.A], i.Imm)}
	case "store":
		return api.Need{Kind: 2, Addr: plus(c.Regs[i.A], i.Imm), Word: c.Regs[i.B]}
	}
	return api.Need{}
}

// reckonModel is what D has behind one that may be, and changes it.
func reckonModel(c api.Cpu, i api.CpuIns, loaded uint64) uint64 {
	a, b, out := number(c.Regs[i.A]), number(c.Regs[i.B]), new(big.Int)
	by := uint(c.Regs[i.B] & 63)
	switch forms[i.Op].name {
	case "set":
		return plus(0, i.Imm)
	case "mov":
		return c.Regs[i.A]
	case "add":
		out.Add(a, b)
	case "sub":
		out.Sub(a, b)
	case "xor":
		out.Xor(a, b)
	case "and":
		out.And(a, b)
	case "mul":
		out.Mul(a, b)
	case "shl":
		out.Lsh(a, by)
	case "shr":
		out.Rsh(a, by)
	case "load":
		return loaded
	}
	return modulo(out)
}

// doModel is what one does, whether it may be or not.
func doModel(c api.Cpu, i api.CpuIns, loaded uint64) (api.Cpu, api.Event) {
	if !mayModel(i) {
		return c, api.Event{Kind: 3}
	}
	at := c.PC
	out := api.Cpu{Regs: c.Regs, PC: plus(at, 8)}
	switch forms[i.Op].name {
	case "nop", "store":
	case "jump":
		out.PC = plus(at, i.Imm)
	case "branch":
		if c.Regs[i.A] != 0 {
			out.PC = plus(at, i.Imm)
		}
	case "entropy":
		return out, api.Event{Kind: 2, Number: i.D}
	case "service":
		return out, api.Event{Kind: 1, Number: int(i.Imm)}
	case "stop":
		return c, api.Event{Kind: 3}
	default:
		out.Regs[i.D] = reckonModel(c, i, loaded)
	}
	return out, api.Event{}
}

// programModel goes over a text byte by byte.
func programModel(text string) ([]uint64, int, api.Errno) {
	var lines []string
	line, open := "", false
	for _, b := range []byte(text) {
		if b == 10 {
			lines, line, open = append(lines, line), "", false
			continue
		}
		line, open = line+string([]byte{b}), true
	}
	if open {
		lines = append(lines, line)
	}
	if len(lines) > 512 {
		return nil, 0, api.ErrLong
	}
	var words []uint64
	for n, s := range lines {
		i, is := untextModel(s)
		if !is {
			return nil, n, api.ErrBytes
		}
		words = append(words, wordModel(i))
	}
	return words, 0, api.OK
}

// edgeWords are words at which sums, products and shifts turn.
func edgeWords() []uint64 {
	return []uint64{0, 1, 2, 7, 8, 62, 63, 64, 65, 127, 128, 1 << 31, 1<<32 - 1, 1 << 32, 0x0123456789abcdef, 1<<63 - 1, 1 << 63, 1<<63 + 1, math.MaxUint64 - 63, math.MaxUint64 - 7, math.MaxUint64 - 1, math.MaxUint64}
}

// edgeImms are all in Imm's bounds.
func edgeImms() []int64 {
	return []int64{lowImm, lowImm + 1, -65536, -256, -9, -8, -7, -1, 0, 1, 7, 8, 9, 255, 256, 65535, highImm - 1, highImm}
}

// wrongImms are none's.
func wrongImms() []int64 {
	return []int64{lowImm - 1, highImm + 1, math.MaxUint32, math.MinInt64, math.MaxInt64, 1 << 32, 1<<32 + 1, -1 << 32, 1 << 62}
}

// wrongRegs are none's.
func wrongRegs() []int {
	return []int{-1, 8, 9, 15, 16, 255, 256, 257, -8, -256, 1 << 32, 1<<32 + 1, math.MinInt, math.MinInt + 1, math.MaxInt}
}

// imms are those of edgeImms that an operation may have; 0 alone, if it names none.
func imms(op api.CpuOp) []int64 {
	if !has(op, "i") {
		return []int64{0}
	}
	return slices.DeleteFunc(edgeImms(), func(x int64) bool { return x < forms[op].low })
}

// regs are all that an operation may have there.
func regs(op api.CpuOp, part string) []int {
	if !has(op, part) {
		return []int{0}
	}
	return []int{0, 1, 2, 3, 4, 5, 6, 7}
}

// right are instructions that may be: of each operation with all registers, and each edge of Imm.
func right() []api.CpuIns {
	var out []api.CpuIns
	for _, op := range allOps() {
		for _, d := range regs(op, "d") {
			for _, a := range regs(op, "a") {
				for _, b := range regs(op, "b") {
					for _, imm := range imms(op) {
						out = append(out, api.CpuIns{Op: op, D: d, A: a, B: b, Imm: imm})
					}
				}
			}
		}
	}
	return out
}

// someRight are fewer of these.
func someRight() []api.CpuIns {
	var out []api.CpuIns
	last := api.CpuOp(0)
	for n, i := range right() {
		if i.Op != last || n%29 == 0 {
			out = append(out, i)
		}
		last = i.Op
	}
	return out
}

// anyRight is one that may be, by chance.
func anyRight(r *rand.Rand) api.CpuIns {
	op := api.CpuOp(1 + r.Intn(17))
	i := api.CpuIns{Op: op, D: pick(r, regs(op, "d")), A: pick(r, regs(op, "a")), B: pick(r, regs(op, "b")), Imm: pick(r, imms(op))}
	if has(op, "i") && r.Intn(2) == 0 {
		i.Imm = max(int64(int32(r.Uint32())), forms[op].low)
	}
	return i
}

func pick[T any](r *rand.Rand, l []T) T { return l[r.Intn(len(l))] }

// anyState is a state, by chance, with edges often.
func anyState(r *rand.Rand) api.Cpu {
	var c api.Cpu
	for n := range c.Regs {
		c.Regs[n] = anyWord(r)
	}
	c.PC = anyWord(r)
	return c
}

func anyWord(r *rand.Rand) uint64 {
	if r.Intn(2) == 0 {
		return pick(r, edgeWords())
	}
	return r.Uint64()
}

// check holds all that is told of an instruction by itself against the model, and says whether it may be.
func check(t *testing.T, i api.CpuIns) bool {
	t.Helper()
	may := mayModel(i)
	if cpu.May(i) != may {
		t.Errorf("May(%v): %v", i, !may)
	}
	w, e := cpu.Encode(i)
	s, f := cpu.Text(i)
	switch {
	case !may && (w != 0 || e != api.ErrArg || s != "" || f != api.ErrArg):
		t.Errorf("%v, that may not be: %x, %d; %q, %d", i, w, e, s, f)
	case may && (w != wordModel(i) || e != api.OK || s != textModel(i) || f != api.OK):
		t.Errorf("%v: %x, %d; %q, %d", i, w, e, s, f)
	}
	return may
}

// checkDone holds what an instruction needs and does against the model.
func checkDone(t *testing.T, c api.Cpu, i api.CpuIns, loaded uint64) {
	t.Helper()
	var need api.Need
	if mayModel(i) {
		need = needsModel(c, i)
	}
	if n := cpu.Needs(c, i); n != need {
		t.Errorf("Needs(%v, %v): %v, not %v", c, i, n, need)
	}
	state, event := doModel(c, i, loaded)
	if o, e := cpu.Do(c, i, loaded); o != state || e != event {
		t.Errorf("Do(%v, %v, %x): %v, %v; not %v, %v", c, i, loaded, o, e, state, event)
	}
}

// checkWord holds what is told of a word against the model.
func checkWord(t *testing.T, w uint64) {
	t.Helper()
	want, why, s := unwordModel(w), api.OK, ""
	if !mayModel(want) {
		want, why = api.CpuIns{}, api.ErrBytes
	} else {
		s = textModel(want) + "\n"
	}
	if i, e := cpu.Decode(w); i != want || e != why {
		t.Errorf("Decode(%x): %v, %d; not %v, %d", w, i, e, want, why)
	}
	if l, e := cpu.Listing(w); l != s || e != why {
		t.Errorf("Listing(%x): %q, %d; not %q, %d", w, l, e, s, why)
	}
}

// checkText holds what is told of a line's text against the model, and says whether it is an instruction's.
func checkText(t *testing.T, s string) bool {
	t.Helper()
	want, is := untextModel(s)
	i, e := cpu.Untext(s)
	if is && (i != want || e != api.OK) || !is && (i != api.CpuIns{} || e != api.ErrBytes) {
		t.Errorf("Untext(%q): %v, %d; not %v, %v", s, i, e, want, is)
	}
	return is
}

// checkProgram holds what is told of a text against the model, and answers its why.
func checkProgram(t *testing.T, text string) api.Errno {
	t.Helper()
	words, line, why := programModel(text)
	l, n, e := cpu.Program(text)
	if !slices.Equal(l, words) || n != line || e != why {
		t.Errorf("Program(%q): %x, %d, %d; not %x, %d, %d", text, l, n, e, words, line, why)
	}
	return why
}
