package rec_test

import (
	"math"
	"math/rand"
	"testing"

	"anchorite/api"
	"anchorite/rec"
)

// The numbers of waits and reasons are the chapter's.
func TestNumbers(t *testing.T) {
	if [4]api.Wait{api.WaitNone, api.WaitHost, api.WaitPage, api.WaitOver} != [4]api.Wait{0, 1, 2, 3} {
		t.Error("waits")
	}
	if [5]api.Reason{api.OutFuel, api.OutHost, api.OutFault, api.OutYield, api.OutOver} != [5]api.Reason{1, 2, 3, 4, 5} {
		t.Error("reasons")
	}
	if api.MaxFuel != maxFuel || api.GranuleSize != 128 {
		t.Error("limits")
	}
}

// The chapter's examples.
func TestExamples(t *testing.T) {
	if e := rec.May(rec.New(1, 1, api.RecParams{})); e != api.ErrState {
		t.Error(e)
	}
	r := rec.New(1, 1, api.RecParams{Runnable: true})
	if e := rec.May(r); e != api.OK {
		t.Error(e)
	}
	c := api.Cpu{Regs: [8]uint64{7, 0, 0, 0, 50, 60, 70, 80}, PC: 24}
	l, e := rec.Leave(r, c, api.Out{Reason: api.OutHost, Regs: [4]uint64{7}})
	if e != api.OK || l != (api.Rec{RD: 1, Instance: 1, Cpu: c, Runnable: true, Waits: api.WaitHost}) {
		t.Error(l, e)
	}
	x, e := rec.Enter(l, api.In{Regs: [4]uint64{1, 2, 3, 4}})
	if e != api.OK || x != (api.Rec{RD: 1, Instance: 1, Cpu: api.Cpu{Regs: [8]uint64{1, 2, 3, 4, 50, 60, 70, 80}, PC: 24}, Runnable: true}) {
		t.Error(x, e)
	}
}

// P14.1

func TestNew(t *testing.T) {
	for _, rd := range []int{0, 1, 2, 4095, 4096, -1, math.MaxInt, math.MinInt} {
		for _, instance := range []uint64{0, 1, 7, 1 << 32, 1 << 63, math.MaxUint64} {
			for _, c := range states() {
				for _, runnable := range []bool{false, true} {
					r := rec.New(rd, instance, api.RecParams{PC: c.PC, Regs: c.Regs, Runnable: runnable})
					if r != (api.Rec{RD: rd, Instance: instance, Cpu: c, Runnable: runnable, Waits: api.WaitNone}) {
						t.Error(rd, instance, c, runnable, r)
					}
				}
			}
		}
	}
}

func TestMay(t *testing.T) {
	for _, r := range recs() {
		for w, want := range map[api.Wait]api.Errno{api.WaitNone: api.OK, api.WaitHost: api.OK, api.WaitPage: api.OK, api.WaitOver: api.ErrState} {
			if r.Waits = w; !r.Runnable {
				want = api.ErrState
			}
			if e := rec.May(r); e != want {
				t.Error(r, e)
			}
		}
	}
}

// P14.2

// What becomes of each register, by each Wait, written out.
func TestEnterByHand(t *testing.T) {
	in := api.In{Regs: [4]uint64{101, 0, math.MaxUint64, 104}}
	was := [8]uint64{1, 2, 3, 4, 5, 6, 7, 8}
	for w, regs := range map[api.Wait][8]uint64{
		api.WaitNone: was,
		api.WaitHost: {101, 0, math.MaxUint64, 104, 5, 6, 7, 8},
		api.WaitPage: was,
	} {
		r := api.Rec{RD: 3, Instance: 9, Cpu: api.Cpu{Regs: was, PC: 48}, Runnable: true, Waits: w}
		x, e := rec.Enter(r, in)
		if e != api.OK || x != (api.Rec{RD: 3, Instance: 9, Cpu: api.Cpu{Regs: regs, PC: 48}, Runnable: true, Waits: api.WaitNone}) {
			t.Error(w, x, e)
		}
	}
}

func TestEnterOfEach(t *testing.T) {
	for _, r := range waiting() {
		for n, in := range replies() {
			if n < 4 || r.Waits >= 0 && r.Waits < 4 {
				checkRest(t, r, in)
			}
		}
	}
}

// In is not looked at, but where the host was waited for: all that may come in comes to the same.
func TestInIsNotLookedAt(t *testing.T) {
	for _, r := range waiting() {
		first, why := rec.Enter(r, api.In{})
		for _, in := range replies() {
			x, e := rec.Enter(r, in)
			if same := x == first; e != why || same != (r.Waits != api.WaitHost || !r.Runnable || in == api.In{}) {
				t.Error(r, in, x, e)
			}
		}
	}
}

// A reply comes in once: what is entered does not wait for it any more.
func TestReplyOnce(t *testing.T) {
	r := api.Rec{Cpu: api.Cpu{Regs: unlike(), PC: 8}, Runnable: true, Waits: api.WaitHost}
	first, _ := rec.Enter(r, api.In{Regs: [4]uint64{1, 2, 3, 4}})
	second, e := rec.Enter(first, api.In{Regs: [4]uint64{5, 6, 7, 8}})
	if e != api.OK || second != first || second.Cpu.Regs[0] != 1 || second.Cpu.Regs[4] != unlike()[4] {
		t.Error(first, second, e)
	}
}

// What each reason lets wait, written out.
func TestLeaveByHand(t *testing.T) {
	c := api.Cpu{Regs: unlike(), PC: 88}
	for reason, w := range map[api.Reason]api.Wait{
		api.OutFuel:  api.WaitNone,
		api.OutHost:  api.WaitHost,
		api.OutFault: api.WaitPage,
		api.OutYield: api.WaitNone,
		api.OutOver:  api.WaitOver,
	} {
		for _, r := range waiting() {
			l, e := rec.Leave(r, c, api.Out{Reason: reason})
			if e != api.OK || l != (api.Rec{RD: r.RD, Instance: r.Instance, Cpu: c, Runnable: r.Runnable, Waits: w}) {
				t.Error(r, reason, l, e)
			}
		}
	}
}

func TestLeaveOfEach(t *testing.T) {
	r := api.Rec{RD: 5, Instance: math.MaxUint64, Cpu: api.Cpu{Regs: unlike(), PC: 16}, Runnable: true, Waits: api.WaitPage}
	for _, c := range states() {
		for _, o := range rightOuts() {
			checkLeave(t, r, c, o)
		}
	}
}

// What an exit tells is the host's matter: of a vCPU its Reason alone is kept, and how it stood is c, whatever is told.
func TestLeaveKeepsNothingTold(t *testing.T) {
	r := rec.New(4, 2, api.RecParams{PC: 8, Regs: unlike(), Runnable: true})
	for _, c := range states() {
		for _, reason := range allReasons() {
			want, _ := rec.Leave(r, c, api.Out{Reason: reason})
			for _, o := range []api.Out{{Ran: 1}, {Ran: maxFuel}, {Regs: [4]uint64{1, 2, 3, 4}}, {Addr: math.MaxUint64}, {Write: true}} {
				o.Reason = reason
				if l, e := rec.Leave(r, c, o); l != want || e != api.OK {
					t.Error(c, o, l, e)
				}
			}
		}
	}
}

func TestAnyRest(t *testing.T) {
	r := rand.New(rand.NewSource(14))
	for range 200000 {
		checkRest(t, anyRec(r), anyIn(r))
		checkLeave(t, anyRec(r), anyCpu(r), anyOut(r))
	}
}

// P14.3

// Where each byte stands, written out: the model and the program may not err together.
func TestInByHand(t *testing.T) {
	want := api.Granule{
		1, 2, 3, 4, 5, 6, 7, 8, 9, 10, 11, 12, 13, 14, 15, 16,
		17, 18, 19, 20, 21, 22, 23, 24, 25, 26, 27, 28, 29, 30, 31, 32,
	}
	in := api.In{Regs: [4]uint64{0x0807060504030201, 0x100f0e0d0c0b0a09, 0x1817161514131211, 0x201f1e1d1c1b1a19}}
	if g := rec.InBytes(in); g != want {
		t.Errorf("% x", g)
	}
	if x, e := rec.InOf(want); x != in || e != api.OK {
		t.Error(x, e)
	}
}

func TestOutByHand(t *testing.T) {
	for _, k := range []struct {
		o api.Out
		g api.Granule
	}{
		{api.Out{Reason: api.OutFuel, Ran: 9}, api.Granule{0: 1, 56: 9}},
		{api.Out{Reason: api.OutFuel}, api.Granule{0: 1}},
		{api.Out{Reason: api.OutYield, Ran: 10000}, api.Granule{0: 4, 56: 0x10, 57: 0x27}},
		{api.Out{Reason: api.OutOver, Ran: 256}, api.Granule{0: 5, 57: 1}},
		{api.Out{Reason: api.OutFault, Addr: 0xf8f7f6f5f4f3f2f1, Ran: 2}, api.Granule{0: 3, 40: 0xf1, 41: 0xf2, 42: 0xf3, 43: 0xf4, 44: 0xf5, 45: 0xf6, 46: 0xf7, 47: 0xf8, 56: 2}},
		{api.Out{Reason: api.OutFault, Write: true}, api.Granule{0: 3, 48: 1}},
		{
			api.Out{Reason: api.OutHost, Regs: [4]uint64{0x0807060504030201, 0x100f0e0d0c0b0a09, 0x1817161514131211, 0x201f1e1d1c1b1a19}, Ran: 258},
			api.Granule{
				2, 0, 0, 0, 0, 0, 0, 0,
				1, 2, 3, 4, 5, 6, 7, 8, 9, 10, 11, 12, 13, 14, 15, 16,
				17, 18, 19, 20, 21, 22, 23, 24, 25, 26, 27, 28, 29, 30, 31, 32,
				0, 0, 0, 0, 0, 0, 0, 0, 0, 0, 0, 0, 0, 0, 0, 0,
				2, 1,
			},
		},
	} {
		if g, e := rec.OutBytes(k.o); g != k.g || e != api.OK {
			t.Errorf("%v: % x, %d", k.o, g, e)
		}
		if o, e := rec.OutOf(k.g); o != k.o || e != api.OK {
			t.Errorf("% x: %v, %d", k.g, o, e)
		}
	}
}

// There and back.
func TestInThereAndBack(t *testing.T) {
	for _, in := range replies() {
		g := rec.InBytes(in)
		if g != put(in.Regs[:]...) {
			t.Errorf("%v: % x", in, g)
		}
		if x, e := rec.InOf(g); x != in || e != api.OK || !checkIn(t, g) {
			t.Error(in, x, e)
		}
	}
}

func TestOutThereAndBack(t *testing.T) {
	for _, o := range rightOuts() {
		if !checkTold(t, o) {
			t.Error("may not be told", o)
		}
		g, _ := rec.OutBytes(o)
		if x, e := rec.OutOf(g); x != o || e != api.OK {
			t.Error(o, x, e)
		}
	}
}

// Noughts bring four noughts, and tell nothing: there is no Reason 0.
func TestNoughts(t *testing.T) {
	if x, e := rec.InOf(api.Granule{}); x != (api.In{}) || e != api.OK || rec.InBytes(api.In{}) != (api.Granule{}) {
		t.Error(x, e)
	}
	if o, e := rec.OutOf(api.Granule{}); o != (api.Out{}) || e != api.ErrBytes {
		t.Error(o, e)
	}
	if g, e := rec.OutBytes(api.Out{}); g != (api.Granule{}) || e != api.ErrArg {
		t.Error(g, e)
	}
}

// The last byte that counts, by itself: In's is its last word's; Out's is Ran's, which may not be that great.
func TestLastByteThatCounts(t *testing.T) {
	g := api.Granule{inEnd - 1: 0x80}
	if x, e := rec.InOf(g); x != (api.In{Regs: [4]uint64{3: 1 << 63}}) || e != api.OK || rec.InBytes(x) != g {
		t.Error(x, e)
	}
	for _, reason := range allReasons() {
		if checkOut(t, api.Granule{0: byte(reason), outEnd - 1: 1}) {
			t.Error(reason)
		}
		if !checkOut(t, api.Granule{0: byte(reason), 57: 39, 56: 16}) || checkOut(t, api.Granule{0: byte(reason), 57: 39, 56: 17}) {
			t.Error(reason, "10000 is the last")
		}
	}
	if !checkOut(t, api.Granule{0: 2, 39: 0x80}) || !checkOut(t, api.Granule{0: 3, 47: 0x80}) {
		t.Error("the last register, or Addr")
	}
}

func TestAnyForm(t *testing.T) {
	r := rand.New(rand.NewSource(143))
	right := [2]int{}
	for range 200000 {
		checkTold(t, anyOut(r))
		g := put(anyWord(r), anyWord(r), anyWord(r), anyWord(r))
		if r.Intn(4) == 0 {
			g[r.Intn(128)] ^= byte(r.Intn(256))
		}
		if checkIn(t, g) {
			right[0]++
		}
		var l [8]uint64
		for i := range l {
			if i == 0 || r.Intn(3) == 0 {
				l[i] = anyWord(r)
			}
		}
		if checkOut(t, put(l[:]...)) {
			right[1]++
		}
		var wild api.Granule
		r.Read(wild[:])
		checkIn(t, wild)
		checkOut(t, wild)
	}
	if right[0] < 10000 || right[1] < 1000 {
		t.Error("hardly one that is right", right)
	}
}

// P14.4

// Of an exit but for OutHost no register is told: where Regs stand, its form is noughts, and with a register there is none.
func TestNoRegisterIsTold(t *testing.T) {
	for _, reason := range []api.Reason{api.OutFuel, api.OutFault, api.OutYield, api.OutOver} {
		for _, ran := range rightRans() {
			o := api.Out{Reason: reason, Ran: ran}
			if g, e := rec.OutBytes(o); e != api.OK || !noughts(g[8:40]) {
				t.Errorf("%v: % x, %d", o, g, e)
			}
			for i := range 4 {
				for _, w := range edgeWords()[1:] {
					o.Regs = [4]uint64{}
					o.Regs[i] = w
					if g, e := rec.OutBytes(o); e != api.ErrArg || g != (api.Granule{}) {
						t.Errorf("%v: % x, %d", o, g, e)
					}
				}
			}
		}
	}
}

// What is told of an exit does not hang on the state that is left.
func TestFormsTellNoState(t *testing.T) {
	for _, o := range rightOuts() {
		want := layout(o)
		for _, c := range states() {
			r := rec.New(1, 1, api.RecParams{Regs: c.Regs, PC: c.PC, Runnable: true})
			if _, e := rec.Leave(r, c, o); e != api.OK {
				t.Error(e)
			}
			if g, e := rec.OutBytes(o); g != want || e != api.OK {
				t.Errorf("%v: % x", o, g)
			}
		}
	}
}

// What is entered, and left at once by OutFuel, is what it was, but for a reply; and it waits for nothing any more.
func TestEnteredAndLeftAtOnce(t *testing.T) {
	for _, r := range waiting() {
		if !mayModel(r) {
			continue
		}
		for _, in := range replies() {
			x, e := rec.Enter(r, in)
			l, f := rec.Leave(x, x.Cpu, api.Out{Reason: api.OutFuel})
			want := r
			want.Waits = api.WaitNone
			if r.Waits == api.WaitHost {
				want.Cpu.Regs = [8]uint64{in.Regs[0], in.Regs[1], in.Regs[2], in.Regs[3], r.Cpu.Regs[4], r.Cpu.Regs[5], r.Cpu.Regs[6], r.Cpu.Regs[7]}
			}
			if e != api.OK || f != api.OK || l != want {
				t.Error(r, in, l, e, f)
			}
			if r.Waits == api.WaitNone && l != r {
				t.Error("changed", r, l)
			}
		}
	}
}

// A vCPU's life: only what waits for the host takes a reply, and what is over stays so.
func TestLife(t *testing.T) {
	in := api.In{Regs: [4]uint64{11, 12, 13, 14}}
	r := rec.New(6, 3, api.RecParams{PC: 8, Regs: [8]uint64{1, 2, 3, 4, 5, 6, 7, 8}, Runnable: true})
	for _, step := range []struct {
		reason api.Reason
		r0, r4 uint64
	}{{api.OutFuel, 1, 5}, {api.OutYield, 1, 5}, {api.OutFault, 1, 5}, {api.OutHost, 11, 5}} {
		left, e := rec.Leave(r, r.Cpu, api.Out{Reason: step.reason})
		x, f := rec.Enter(left, in)
		if e != api.OK || f != api.OK || x.Cpu.Regs[0] != step.r0 || x.Cpu.Regs[4] != step.r4 || x.Waits != api.WaitNone {
			t.Error(step, left, x, e, f)
		}
	}
	over, _ := rec.Leave(r, r.Cpu, api.Out{Reason: api.OutOver})
	for range 2 {
		if x, e := rec.Enter(over, in); x != (api.Rec{}) || e != api.ErrState || rec.May(over) != api.ErrState {
			t.Error(x, e)
		}
	}
}
