package rec_test

import (
	"math"
	"testing"

	"anchorite/api"
	"anchorite/rec"
)

// refuseLeave says that a vCPU can't be left so.
func refuseLeave(t *testing.T, r api.Rec, o api.Out) {
	t.Helper()
	if l, e := rec.Leave(r, api.Cpu{Regs: unlike(), PC: 8}, o); l != (api.Rec{}) || e != api.ErrArg {
		t.Error(r, o, l, e)
	}
}

// refuseTold says that an exit may not be told, and that what would be its form is none.
func refuseTold(t *testing.T, o api.Out) {
	t.Helper()
	if g, e := rec.OutBytes(o); g != (api.Granule{}) || e != api.ErrArg {
		t.Errorf("%v: % x, %d", o, g, e)
	}
	refuseOut(t, layout(o))
}

// refuseOut says that bytes are no exit's form.
func refuseOut(t *testing.T, g api.Granule) {
	t.Helper()
	if o, e := rec.OutOf(g); o != (api.Out{}) || e != api.ErrBytes || checkOut(t, g) {
		t.Errorf("% x: %v, %d", g, o, e)
	}
}

// refuseIn says that bytes are not the form of what an entering brings.
func refuseIn(t *testing.T, g api.Granule) {
	t.Helper()
	if x, e := rec.InOf(g); x != (api.In{}) || e != api.ErrBytes || checkIn(t, g) {
		t.Errorf("% x: %v, %d", g, x, e)
	}
}

// P14.1, P14.2

// A zero vCPU is not Runnable.
func TestZeroRec(t *testing.T) {
	if e := rec.May(api.Rec{}); e != api.ErrState {
		t.Error(e)
	}
	if x, e := rec.Enter(api.Rec{}, api.In{Regs: [4]uint64{1}}); x != (api.Rec{}) || e != api.ErrState {
		t.Error(x, e)
	}
	if l, e := rec.Leave(api.Rec{}, api.Cpu{}, api.Out{Reason: api.OutOver}); l != (api.Rec{Waits: api.WaitOver}) || e != api.OK {
		t.Error(l, e)
	}
}

// What can't be entered stays out, whatever it waits for, and whatever is brought.
func TestNotRunnable(t *testing.T) {
	for _, r := range waiting() {
		if r.Runnable && r.Waits != api.WaitOver {
			continue
		}
		for _, in := range replies()[:4] {
			if x, e := rec.Enter(r, in); x != (api.Rec{}) || e != api.ErrState || rec.May(r) != api.ErrState {
				t.Error(r, x, e)
			}
		}
	}
}

// A Wait that is none is not WaitOver: it may be entered; and it is not WaitHost: it takes no reply.
func TestWaitThatIsNone(t *testing.T) {
	in := api.In{Regs: [4]uint64{1, 2, 3, 4}}
	for _, w := range wrongWaits() {
		r := api.Rec{RD: 1, Instance: 2, Cpu: api.Cpu{Regs: unlike(), PC: 8}, Runnable: true, Waits: w}
		want := r
		want.Waits = api.WaitNone
		if x, e := rec.Enter(r, in); x != want || e != api.OK || rec.May(r) != api.OK {
			t.Error(r, x, e)
		}
	}
}

func TestLeaveByWrongReasons(t *testing.T) {
	for _, r := range recs() {
		for _, reason := range wrongReasons() {
			for _, ran := range []int{0, 5, maxFuel, maxFuel + 1, -1} {
				refuseLeave(t, r, api.Out{Reason: reason, Ran: ran})
			}
		}
	}
}

func TestLeaveWithRanBelowNought(t *testing.T) {
	for _, r := range recs() {
		for _, reason := range allReasons() {
			for _, ran := range ransBelow() {
				refuseLeave(t, r, api.Out{Reason: reason, Ran: ran})
			}
		}
	}
}

// Of Leave a Ran beyond MaxFuel is no ErrArg, and neither is what a reason does not tell: its Errors name none of these.
func TestLeaveWithMoreThanIsTold(t *testing.T) {
	r := rec.New(1, 1, api.RecParams{Runnable: true})
	c := api.Cpu{Regs: unlike(), PC: 8}
	for _, reason := range allReasons() {
		want, _ := rec.Leave(r, c, api.Out{Reason: reason})
		outs := []api.Out{{Regs: [4]uint64{3: 1}}, {Addr: 1}, {Write: true}, {Regs: [4]uint64{1, 2, 3, 4}, Addr: 5, Write: true, Ran: math.MaxInt}}
		for _, ran := range ransBeyond() {
			outs = append(outs, api.Out{Ran: ran})
		}
		for _, o := range outs {
			o.Reason = reason
			if l, e := rec.Leave(r, c, o); l != want || l.Cpu != c || e != api.OK {
				t.Error(o, l, e)
			}
		}
	}
}

// Several faults at once: of Leave it is ErrArg, also of what could not be entered, which by itself is no fault of it.
func TestLeaveOfWhatCannotBeEntered(t *testing.T) {
	for _, r := range waiting() {
		if mayModel(r) {
			continue
		}
		refuseLeave(t, r, api.Out{Reason: 0, Ran: -1, Regs: [4]uint64{1}, Addr: 1, Write: true})
		refuseLeave(t, r, api.Out{Reason: api.OutFuel, Ran: -1})
		refuseLeave(t, r, api.Out{Reason: 6})
		for _, reason := range allReasons() {
			checkLeave(t, r, api.Cpu{PC: 8}, api.Out{Reason: reason})
			if _, e := rec.Leave(r, api.Cpu{PC: 8}, api.Out{Reason: reason}); e != api.OK {
				t.Error(r, reason, e)
			}
		}
	}
}

// P14.3

// Each byte behind a form by itself, as each other than 0.
func TestBytesBehindForms(t *testing.T) {
	ins := []api.Granule{{}, put(1, 2, 3, 4), put(math.MaxUint64, math.MaxUint64, math.MaxUint64, math.MaxUint64)}
	outs := []api.Granule{
		put(1), put(1, 0, 0, 0, 0, 0, 0, maxFuel), put(2), put(2, 1, 2, 3, 4, 0, 0, 9), put(2, math.MaxUint64, math.MaxUint64, math.MaxUint64, math.MaxUint64),
		put(3), put(3, 0, 0, 0, 0, math.MaxUint64, 1, 1), put(4), put(5, 0, 0, 0, 0, 0, 0, 7),
	}
	for c := 1; c < 256; c++ {
		for _, g := range ins {
			for at := inEnd; at < 128; at++ {
				h := g
				h[at] = byte(c)
				refuseIn(t, h)
			}
		}
		for _, g := range outs {
			for at := outEnd; at < 128; at++ {
				h := g
				h[at] = byte(c)
				refuseOut(t, h)
			}
		}
	}
}

// Each byte of right forms, as each that there is.
func TestFormsByteByByte(t *testing.T) {
	for _, g := range []api.Granule{{}, put(1), put(2, 1, 2, 3, 4, 0, 0, 9), put(3, 0, 0, 0, 0, 4096, 1, maxFuel), put(4, 0, 0, 0, 0, 0, 0, 255), put(5)} {
		for at := range 128 {
			for c := range 256 {
				h := g
				h[at] = byte(c)
				checkOut(t, h)
				if is := checkIn(t, h); is != noughts(h[inEnd:]) {
					t.Errorf("% x: %v", h, is)
				}
			}
		}
	}
}

func TestToldByWrongReasons(t *testing.T) {
	for _, reason := range wrongReasons() {
		refuseTold(t, api.Out{Reason: reason})
		refuseTold(t, api.Out{Reason: reason, Ran: 5})
		refuseTold(t, api.Out{Reason: reason, Regs: [4]uint64{1}})
		refuseTold(t, api.Out{Reason: reason, Addr: 1, Write: true})
		refuseTold(t, api.Out{Reason: reason, Ran: -1})
	}
}

func TestToldWithWrongRan(t *testing.T) {
	for _, o := range []api.Out{{Reason: 1}, {Reason: 2}, {Reason: 2, Regs: [4]uint64{1, 2, 3, 4}}, {Reason: 3}, {Reason: 3, Addr: 8, Write: true}, {Reason: 4}, {Reason: 5}} {
		for _, ran := range append(ransBelow(), ransBeyond()...) {
			o.Ran = ran
			refuseTold(t, o)
		}
	}
}

// Words for Reason and Ran beyond what an int holds, and such whose lowest bytes would do.
func TestWordsBeyondAnInt(t *testing.T) {
	for low := range uint64(6) {
		for _, high := range []uint64{1 << 8, 1 << 16, 1 << 31, 1 << 32, 1 << 33, 1 << 56, 1 << 62, 1 << 63, 0xffffffff << 32, 3 << 62} {
			refuseOut(t, put(high+low))
			refuseOut(t, put(high+low, 0, 0, 0, 0, 0, 0, 1))
		}
	}
	for _, reason := range []uint64{1, 2, 3, 4, 5} {
		for low := range uint64(6) {
			for _, high := range []uint64{1 << 14, 1 << 16, 1 << 31, 1 << 32, 1 << 56, 1 << 62, 1 << 63, 0xffffffff << 32, 3 << 62} {
				refuseOut(t, put(reason, 0, 0, 0, 0, 0, 0, high+low))
			}
		}
		for n := range uint64(20) {
			refuseOut(t, put(reason, 0, 0, 0, 0, 0, 0, math.MaxUint64-n))
			refuseOut(t, put(math.MaxUint64-n, 0, 0, 0, 0, 0, 0, reason))
		}
	}
}

// Write is 0 or 1, of a fault; 2, or a higher byte, is none.
func TestWrongWrite(t *testing.T) {
	for _, addr := range []uint64{0, 8, math.MaxUint64} {
		for w := range uint64(2) {
			if !checkOut(t, put(3, 0, 0, 0, 0, addr, w, 3)) {
				t.Error(w)
			}
		}
		for w := uint64(2); w < 1000; w++ {
			refuseOut(t, put(3, 0, 0, 0, 0, addr, w, 3))
		}
		for bit := 1; bit < 64; bit++ {
			refuseOut(t, put(3, 0, 0, 0, 0, addr, 1<<bit, 3))
			refuseOut(t, put(3, 0, 0, 0, 0, addr, 1<<bit+1, 3))
		}
		refuseOut(t, put(3, 0, 0, 0, 0, addr, math.MaxUint64, 3))
	}
}

// Of each reason each thing that it does not tell, by itself, not 0.
func TestWhatAReasonDoesNotTell(t *testing.T) {
	for _, ran := range rightRans() {
		for _, w := range edgeWords()[1:] {
			for _, reason := range []api.Reason{api.OutFuel, api.OutFault, api.OutYield, api.OutOver} {
				for i := range 4 {
					o := api.Out{Reason: reason, Ran: ran}
					o.Regs[i] = w
					refuseTold(t, o)
				}
			}
			for _, reason := range []api.Reason{api.OutFuel, api.OutHost, api.OutYield, api.OutOver} {
				refuseTold(t, api.Out{Reason: reason, Addr: w, Ran: ran})
				refuseTold(t, api.Out{Reason: reason, Write: true, Ran: ran})
				// As a word that is no bool, too.
				refuseOut(t, put(uint64(reason), 0, 0, 0, 0, 0, w, uint64(ran)))
			}
		}
	}
	refuseTold(t, api.Out{Reason: api.OutFault, Regs: [4]uint64{3: 1}, Addr: 8, Write: true})
	refuseTold(t, api.Out{Reason: api.OutHost, Regs: [4]uint64{1, 2, 3, 4}, Write: true})
	refuseTold(t, api.Out{Reason: api.OutHost, Regs: [4]uint64{1, 2, 3, 4}, Addr: 8})
}

// Several faults at once are told as one is.
func TestManyFaults(t *testing.T) {
	for _, o := range []api.Out{
		{Reason: -1, Regs: [4]uint64{1, 2, 3, 4}, Addr: 5, Write: true, Ran: -6},
		{Reason: 0, Regs: [4]uint64{1, 2, 3, 4}, Addr: 5, Write: true, Ran: maxFuel + 1},
		{Reason: api.OutFuel, Regs: [4]uint64{1, 2, 3, 4}, Addr: 5, Write: true, Ran: math.MaxInt},
		{Reason: api.OutFault, Regs: [4]uint64{1, 2, 3, 4}, Addr: 5, Write: true, Ran: math.MinInt},
		{Reason: api.OutHost, Addr: 5, Write: true, Ran: -1},
	} {
		refuseTold(t, o)
		g := layout(o)
		g[127], g[48] = 1, 2
		refuseOut(t, g)
		refuseIn(t, g)
	}
	var g api.Granule
	for i := range g {
		g[i] = 255
	}
	refuseOut(t, g)
	refuseIn(t, g)
}

// What a caller hands in stays as it was, and the same is answered again.
func TestHandedIn(t *testing.T) {
	in := api.In{Regs: [4]uint64{11, 12, 13, 14}}
	p := api.RecParams{PC: 8, Regs: unlike(), Runnable: true}
	r := rec.New(1, 2, p)
	r.Waits = api.WaitHost
	c := api.Cpu{Regs: full(), PC: 16}
	o := api.Out{Reason: api.OutHost, Regs: [4]uint64{1, 2, 3, 4}, Ran: 5}
	g, h := put(1, 2, 3, 4), layout(o)
	inWas, pWas, rWas, cWas, oWas, gWas, hWas := in, p, r, c, o, g, h
	for range 2 {
		rec.New(1, 2, p)
		rec.May(r)
		x, _ := rec.Enter(r, in)
		l, _ := rec.Leave(r, c, o)
		rec.Leave(r, c, api.Out{})
		a, _ := rec.InOf(g)
		b, _ := rec.OutOf(h)
		if x.Cpu.Regs[0] != 11 || l.Cpu != c || a.Regs[3] != 4 || b != o || rec.InBytes(a) != g {
			t.Error(x, l, a, b)
		}
		// What was answered is the caller's own: it may be changed.
		x.Cpu.Regs[0], l.Cpu.Regs[1], a.Regs[2], b.Regs[3] = 99, 99, 99, 99
		if in != inWas || p != pWas || r != rWas || c != cWas || o != oWas || g != gWas || h != hWas {
			t.Error("changed", in, p, r, c, o, g, h)
		}
	}
}
