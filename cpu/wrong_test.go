package cpu_test

import (
	"math"
	"math/rand"
	"slices"
	"strconv"
	"strings"
	"testing"

	"anchorite/api"
	"anchorite/cpu"
)

// none says that an instruction may not be, wherever it is told or done.
func none(t *testing.T, i api.CpuIns) {
	t.Helper()
	if check(t, i) {
		t.Error("may be", i)
	}
	c := api.Cpu{Regs: [8]uint64{1, 2, 3, 4, 5, 6, 7, 8}, PC: 80}
	checkDone(t, c, i, 9)
	if o, e := cpu.Do(c, i, 9); o != c || e != (api.Event{Kind: api.EvStop}) {
		t.Error("Do", i, o, e)
	}
	if n := cpu.Needs(c, i); n != (api.Need{}) {
		t.Error("Needs", i, n)
	}
}

// P13.1, P13.2

func TestWrongOps(t *testing.T) {
	for _, op := range []api.CpuOp{0, -1, -2, -17, 18, 19, 32, 100, 127, 128, 255, 256, 257, 256 + 17, 1 << 16, 1<<32 + 1, math.MaxInt, math.MinInt, math.MinInt + 1} {
		none(t, api.CpuIns{Op: op})
		none(t, api.CpuIns{Op: op, D: 1})
		none(t, api.CpuIns{Op: op, A: 1, Imm: 8})
		none(t, api.CpuIns{Op: op, D: 1, A: 2, B: 3, Imm: -1})
		none(t, api.CpuIns{Op: op, D: -1, A: 8, B: math.MinInt, Imm: math.MinInt64})
	}
}

// Each part by itself, of each operation: beyond its bounds where it is named, not 0 where it is not.
func TestWrongParts(t *testing.T) {
	for _, i := range someRight() {
		unnamed := []int{1, 2, 3, 4, 5, 6, 7}
		for n, part := range []string{"d", "a", "b"} {
			wrong := wrongRegs()
			if !has(i.Op, part) {
				wrong = append(wrong, unnamed...)
			}
			for _, x := range wrong {
				j := i
				*[]*int{&j.D, &j.A, &j.B}[n] = x
				none(t, j)
			}
		}
		wrong := wrongImms()
		if !has(i.Op, "i") {
			wrong = append(wrong, slices.DeleteFunc(edgeImms(), func(x int64) bool { return x == 0 })...)
		}
		for _, x := range wrong {
			j := i
			j.Imm = x
			none(t, j)
		}
	}
}

func TestServiceBelowNought(t *testing.T) {
	for _, x := range edgeImms() {
		if x < 0 {
			none(t, api.CpuIns{Op: api.CpuService, Imm: x})
		}
	}
}

// All parts at once, right and wrong.
func TestAllParts(t *testing.T) {
	imms := append(edgeImms(), wrongImms()...)
	regs := []int{-1, 0, 1, 7, 8, 256}
	for op := api.CpuOp(-1); op < 20; op++ {
		for _, imm := range imms {
			for _, d := range regs {
				for _, a := range regs {
					for _, b := range regs {
						check(t, api.CpuIns{Op: op, D: d, A: a, B: b, Imm: imm})
					}
				}
			}
		}
	}
}

// Words of each operation with each byte by itself set to all that it can be.
func TestWordsByteByByte(t *testing.T) {
	for _, i := range someRight() {
		w := wordModel(i)
		for at := range 8 {
			for x := range uint64(256) {
				checkWord(t, w&^(255<<(8*at))|x<<(8*at))
			}
		}
	}
}

func TestWordsThatAreNones(t *testing.T) {
	for _, w := range []uint64{
		0, 18, 255, 256, math.MaxUint64, 1 << 63,
		1 + 1<<8, 1 + 1<<16, 1 + 1<<24, 1 + 1<<32, 1 + 1<<63,
		2 + 8<<8, 2 + 255<<8, 2 + 1<<16, 2 + 1<<24,
		3 + 8<<16, 3 + 1<<24, 3 + 1<<32,
		4 + 8<<24, 4 + 1<<32, 10 + 0xffffffff<<32,
		11 + 1<<24, 12 + 1<<8, 13 + 1<<8, 13 + 1<<16, 13 + 1<<24, 14 + 1<<8, 14 + 1<<24,
		15 + 8<<8, 15 + 1<<16, 15 + 1<<32, 16 + 1<<63, 16 + 0xffffffff<<32, 16 + 1<<8, 17 + 1<<32, 17 + 1<<8,
	} {
		if i, e := cpu.Decode(w); i != (api.CpuIns{}) || e != api.ErrBytes {
			t.Errorf("%x: %v, %d", w, i, e)
		}
		checkWord(t, w)
	}
}

func TestGiveOfNone(t *testing.T) {
	c := api.Cpu{Regs: [8]uint64{1, 2, 3, 4, 5, 6, 7, 8}, PC: 80}
	for _, reg := range wrongRegs() {
		if o, e := cpu.Give(c, reg, 3); o != (api.Cpu{}) || e != api.ErrArg {
			t.Error(reg, o, e)
		}
	}
}

// P13.3

func TestWrongTexts(t *testing.T) {
	big := strings.Repeat("9", 400)
	for _, s := range []string{
		"", " ", "  ", "\n", "nop\n", "\nnop", "nop ", " nop", "nop nop", "nop 0", "nop r0", "nop\x00", "\x00", "fly", "no", "nopp", "r0", "0", "1",
		"NOP", "Nop", "Set r0 1", "SET r0 1", "set R0 1", "ADD r0 r1 r2",
		"set", "set ", "set r0", "set r0 ", "set 1", "set r0 1 ", " set r0 1", "set  r0 1", "set r0  1", "set\tr0 1", "set r0\t1", "set r0,1", "set r0 1 1", "set r0 r1", "set r0 1 r1",
		"set r0 +1", "set r0 +0", "set r0 01", "set r0 00", "set r0 -0", "set r0 -01", "set r0 -", "set r0 +", "set r0 --1", "set r0 - 1", "set r0 1-", "set r0 1.0", "set r0 1e3", "set r0 0x1", "set r0 1_0", "set r0 x", "set r0 \uff11", "set r0 \u0661", "set r0 \u22121",
		"set r0 2147483648", "set r0 -2147483649", "set r0 4294967295", "set r0 4294967296", "set r0 9223372036854775807", "set r0 9223372036854775808", "set r0 -9223372036854775808", "set r0 -9223372036854775809", "set r0 18446744073709551616", "set r0 " + big, "set r0 -" + big,
		"set r8 1", "set r-1 1", "set r+1 1", "set r01 1", "set r00 1", "set r 1", "set 0 1", "set rr0 1", "set r1r 1", "set r10 1", "set r4294967296 1", "set r18446744073709551616 1", "set r" + big + " 1", "set r-0 1", "set x0 1", "set r0r 1", "set r\u0661 1",
		"mov r1", "mov r1  r2", "mov r1 r2 r3", "mov r1 2", "mov r1 r8", "mov r1 r-1", "mov r1,r2",
		"add r0 r1", "add r0 r1 r2 r3", "add r0 r1 2", "add r0 r1 r8", "add r0 r8 r1", "add r8 r0 r1", "add r0 r1 r2 ", "add r0 r1 r2 0",
		"load r0 r1", "load r0 8", "load r0 r1 r2", "load r0 r1 r2 8", "load r0 r1 +8", "load r0 8 r1", "load r0 r1 2147483648",
		"store r0 r1", "store r0 8", "store r0 r1 r2 8", "store r0 r1 -0", "store r0 r1 -2147483649",
		"jump", "jump r1", "jump +8", "jump 8 8", "jump r1 8", "jump 2147483648",
		"branch r1", "branch 8", "branch r1 r2", "branch r1 r2 8", "branch r8 8", "branch r0 -2147483649",
		"entropy", "entropy 5", "entropy r8", "entropy r1 r2", "entropy r1 0",
		"service", "service -1", "service -2147483648", "service 2147483648", "service r1", "service +1", "service 01", "service -0", "service 1 1",
		"stop 0", "stop r0", "stopp", "stop.", "stop\r",
	} {
		if checkText(t, s) {
			t.Errorf("%q is none", s)
		}
		if i, e := cpu.Untext(s); i != (api.CpuIns{}) || e != api.ErrBytes {
			t.Errorf("%q: %v, %d", s, i, e)
		}
	}
}

// Names of other operations, with what each names.
func TestNamesWithOthersWords(t *testing.T) {
	for _, op := range allOps() {
		for _, k := range known {
			_, words, is := strings.Cut(k.s, " ")
			s := forms[op].name
			if is {
				s += " " + words
			}
			want := sameShape(forms[op].has, forms[k.i.Op].has) && (op != api.CpuService || k.i.Imm >= 0)
			if checkText(t, s) != want {
				t.Errorf("%q: %v", s, !want)
			}
		}
	}
}

// sameShape says whether as many registers are named, and Imm by both or by neither.
func sameShape(a, b string) bool {
	return len(a) == len(b) && strings.HasSuffix(a, "i") == strings.HasSuffix(b, "i")
}

// Right texts with one byte more, one fewer, and another one.
func TestTextsByteByByte(t *testing.T) {
	bytes := "\x00\n\t +-0127892rRnos,x\x80\xff"
	for _, k := range known {
		for at := range len(k.s) + 1 {
			for _, b := range []byte(bytes) {
				one := string([]byte{b})
				checkText(t, k.s[:at]+one+k.s[at:])
				if at < len(k.s) {
					checkText(t, k.s[:at]+one+k.s[at+1:])
				}
			}
			checkText(t, k.s[:at])
			checkText(t, k.s[at:])
			if at < len(k.s) {
				checkText(t, k.s[:at]+k.s[at+1:])
			}
		}
	}
}

// Numbers near each bound.
func TestNumbersNearBounds(t *testing.T) {
	var l []int64
	for _, x := range []int64{lowImm, -1000000000, 0, highImm, 1 << 32, -1 << 32} {
		for n := range int64(5) {
			l = append(l, x+n-2)
		}
	}
	for _, start := range []string{"set r0 ", "load r1 r2 ", "store r3 r4 ", "jump ", "branch r5 ", "service "} {
		for _, x := range l {
			s := start + strconv.FormatInt(x, 10)
			low := int64(lowImm)
			if start == "service " {
				low = 0
			}
			if checkText(t, s) != (x >= low && x <= highImm) {
				t.Error(s)
			}
		}
	}
}

// The first wrong line is told, and no word.
func TestWrongLines(t *testing.T) {
	for text, line := range map[string]int{
		"\n":                         0,
		"\n\n":                       0,
		"\nnop":                      0,
		"\nnop\n":                    0,
		"fly":                        0,
		"fly\n":                      0,
		" ":                          0,
		"nop\n\n":                    1,
		"nop\n\nnop":                 1,
		"nop\n\n\n":                  1,
		"nop\nfly":                   1,
		"nop\nfly\n":                 1,
		"nop\nfly\nfly\n\n":          1,
		"nop\nset r0 +1\nset r8 1\n": 1,
		"nop\nstop\nadd r0 r1\nfly":  2,
		"nop\r\nstop\r\n":            0,
		"nop\nstop\r\n":              1,
		"nop\nstop ":                 1,
		"nop\n ":                     1,
		"nop\x00\nstop":              0,
		"nop\n\nfly":                 1,
		"nop\u2028stop":              0,
		"nop stop":                   0,
	} {
		l, n, e := cpu.Program(text)
		if len(l) != 0 || n != line || e != api.ErrBytes {
			t.Errorf("%q: %v, %d, %d; not %d", text, l, n, e, line)
		}
		checkProgram(t, text)
	}
}

// One wrong line, and then a second, at each place of programs of the most lines, and of fewer.
func TestWrongLineAtEachPlace(t *testing.T) {
	for _, many := range []int{1, 2, 3, 40, 511, 512} {
		lines := strings.Split(repeated(many, ""), "\n")
		for at := 0; at < many; at += 1 + many/40 {
			for _, wrong := range []string{"fly", "", "set r0 -0", "nop "} {
				l := slices.Clone(lines)
				l[at] = wrong
				l[at+(many-at)/2] = wrong
				text := strings.Join(l, "\n") + "\n"
				if w, n, e := cpu.Program(text); len(w) != 0 || n != at || e != api.ErrBytes {
					t.Error(many, at, wrong, len(w), n, e)
				}
			}
		}
	}
	// The last of the most lines alone.
	if w, n, e := cpu.Program(repeated(511, "\n") + "fly"); len(w) != 0 || n != 511 || e != api.ErrBytes {
		t.Error(len(w), n, e)
	}
}

// Too long is told ahead of every wrong line.
func TestTooLong(t *testing.T) {
	for _, text := range []string{
		repeated(513, ""), repeated(513, "\n"), repeated(514, ""), repeated(5000, "\n"),
		"fly\n" + repeated(512, ""), repeated(512, "\n") + "fly", repeated(512, "\nfly\n"), repeated(512, "\n\n"), repeated(512, "\n "),
		repeated(256, "\nfly\n") + repeated(256, ""),
		strings.Repeat("\n", 513), strings.Repeat("\n", 100000), strings.Repeat("fly\n", 513), strings.Repeat("x\n", 512) + "x",
	} {
		if w, n, e := cpu.Program(text); len(w) != 0 || n != 0 || e != api.ErrLong {
			t.Error(strings.Count(text, "\n"), len(w), n, e)
		}
		checkProgram(t, text)
	}
	// One line fewer each: not too long.
	for _, text := range []string{strings.Repeat("\n", 512), strings.Repeat("fly\n", 512), strings.Repeat("x\n", 511) + "x"} {
		if w, n, e := cpu.Program(text); len(w) != 0 || n != 0 || e != api.ErrBytes {
			t.Error(len(w), n, e)
		}
	}
}

// One line of very many bytes is one line.
func TestLongLine(t *testing.T) {
	for _, s := range []string{strings.Repeat("nop ", 100000), strings.Repeat(" ", 100000), "set r0 " + strings.Repeat("1", 100000), "set r" + strings.Repeat("0", 100000) + " 1", strings.Repeat("x", 1<<20)} {
		if i, e := cpu.Untext(s); i != (api.CpuIns{}) || e != api.ErrBytes {
			t.Error(i, e)
		}
		if w, n, e := cpu.Program("nop\n" + s); len(w) != 0 || n != 1 || e != api.ErrBytes {
			t.Error(len(w), n, e)
		}
	}
}

func TestAnyProgram(t *testing.T) {
	r := rand.New(rand.NewSource(138))
	pieces := []string{"\n", "\n", "\n", "nop", "stop", "set r0 1", "add r1 r2 r3", " ", "r", "-", "0", "fly", "\r", "\x00"}
	for range 50000 {
		var s string
		for range r.Intn(8) {
			s += pick(r, pieces)
		}
		checkProgram(t, s)
	}
	for range 300 {
		var s string
		for range 505 + r.Intn(12) {
			s += textModel(anyRight(r)) + "\n"
		}
		if r.Intn(2) == 0 {
			at := r.Intn(len(s))
			s = s[:at] + s[at+1:]
		}
		checkProgram(t, s)
	}
}

func TestWrongListings(t *testing.T) {
	is := func(want api.Errno, l ...uint64) {
		t.Helper()
		if s, e := cpu.Listing(l...); s != "" || e != want {
			t.Errorf("%d words: %q, %d; not %d", len(l), s, e, want)
		}
	}
	most := slices.Repeat([]uint64{1}, 512)
	is(api.ErrBytes, 0)
	is(api.ErrBytes, 1, 0)
	is(api.ErrBytes, 0, 1)
	is(api.ErrBytes, 1, 17, 1<<63+16, 1)
	is(api.ErrBytes, append(slices.Clone(most[:511]), 0)...)
	is(api.ErrBytes, append([]uint64{0}, most[:511]...)...)
	is(api.ErrBytes, make([]uint64, 512)...)
	is(api.ErrLong, append(slices.Clone(most), 1)...)
	is(api.ErrLong, append(slices.Clone(most), 0)...)
	is(api.ErrLong, append([]uint64{0}, most...)...)
	is(api.ErrLong, make([]uint64, 513)...)
	is(api.ErrLong, make([]uint64, 100000)...)
}

// Nil and empty lists are one.
func TestListingOfNothing(t *testing.T) {
	for _, l := range [][]uint64{nil, {}} {
		if s, e := cpu.Listing(l...); s != "" || e != api.OK {
			t.Error(s, e)
		}
	}
}

// What a caller hands in stays as it was, what lies behind a list's end too; what is answered is the caller's.
func TestHandedIn(t *testing.T) {
	words := []uint64{1, 2, 17, 16, 99, 98}
	was := slices.Clone(words)
	for range 2 {
		if s, e := cpu.Listing(words[:4]...); s != "nop\nset r0 0\nstop\nservice 0\n" || e != api.OK {
			t.Error(s, e)
		}
		if _, e := cpu.Listing(words...); e != api.ErrBytes {
			t.Error(e)
		}
	}
	if !slices.Equal(words, was) {
		t.Error(words)
	}
	a, _, _ := cpu.Program("nop\nstop\n")
	b, _, _ := cpu.Program("nop\nstop\n")
	a[0], a[1] = 7, 7
	_ = append(a[:1], 9)
	if c, _, _ := cpu.Program("nop\nstop\n"); !slices.Equal(b, []uint64{1, 17}) || !slices.Equal(c, b) {
		t.Error(b, c)
	}
}

func TestStateStays(t *testing.T) {
	r := rand.New(rand.NewSource(139))
	for _, i := range append(someRight(), api.CpuIns{}, api.CpuIns{Op: 99}, api.CpuIns{Op: 4, D: 8}) {
		c := anyState(r)
		was, j := c, i
		o, e := cpu.Do(c, i, 5)
		cpu.Needs(c, i)
		cpu.Encode(i)
		cpu.Text(i)
		if c != was || i != j {
			t.Error("changed", c, was, i, j)
		}
		if again, f := cpu.Do(c, i, 5); again != o || f != e {
			t.Error("not the same", i, o, again, e, f)
		}
	}
}
