package rec_test

import (
	"encoding/binary"
	"math"
	"math/rand"
	"testing"

	"anchorite/api"
	"anchorite/rec"
)

const (
	maxFuel = 10000
	inEnd   = 32 // where the noughts begin behind the form of what an entering brings
	outEnd  = 64 // and behind that of what an exit tells
)

// allReasons and allWaits are those that there are, by the chapter's numbers.
func allReasons() []api.Reason { return []api.Reason{1, 2, 3, 4, 5} }
func allWaits() []api.Wait     { return []api.Wait{0, 1, 2, 3} }

// wrongReasons are none's: near, below 0, far beyond, and such whose lowest bytes are one's.
func wrongReasons() []api.Reason {
	return []api.Reason{0, 6, 7, 8, 15, 16, 100, 255, 256, 257, 1<<16 + 2, 1<<32 + 1, 1<<32 + 5, 1<<62 + 3, math.MaxInt, -1, -2, -3, -4, -5, -6, -255, -256, math.MinInt, math.MinInt + 1, math.MinInt + 5}
}

// wrongWaits are none's.
func wrongWaits() []api.Wait {
	return []api.Wait{-1, -2, -3, 4, 5, 6, 255, 256, 257, 259, 1<<32 + 1, 1<<32 + 3, math.MaxInt, math.MinInt, math.MinInt + 1, math.MinInt + 3}
}

// rightRans may be told; below 0, and beyond MaxFuel, none may.
func rightRans() []int { return []int{0, 1, 2, 8, 255, 256, 257, maxFuel - 1, maxFuel} }

func ransBelow() []int {
	return []int{-1, -2, -256, -maxFuel, -1 << 32, math.MinInt, math.MinInt + 1, math.MinInt + maxFuel}
}

func ransBeyond() []int {
	return []int{maxFuel + 1, maxFuel + 2, 1 << 14, 1 << 16, 1<<31 - 1, 1 << 31, 1 << 32, 1<<32 + 1, 1<<62 + maxFuel, math.MaxInt - 1, math.MaxInt}
}

// edgeWords are words at which bytes, signs and bounds turn.
func edgeWords() []uint64 {
	return []uint64{0, 1, 2, 5, 6, 8, 128, 255, 256, maxFuel, maxFuel + 1, 32768, 1<<32 - 1, 1 << 32, 1<<32 + 1, 0x0123456789abcdef, 1<<63 - 1, 1 << 63, 1<<63 + 1, 1<<63 + 5, math.MaxUint64 - 1, math.MaxUint64}
}

// unlike are numbers of eight bytes, no two of all their bytes the same, none of them nought.
func unlike() [8]uint64 {
	var out [8]uint64
	for i := range out {
		for j := range 8 {
			out[i] |= uint64(8*i+j+1) << (8 * j)
		}
	}
	return out
}

// full are eight of the greatest word.
func full() [8]uint64 {
	var out [8]uint64
	for i := range out {
		out[i] = math.MaxUint64
	}
	return out
}

// states are registers and PCs at their edges.
func states() []api.Cpu {
	out := []api.Cpu{{}, {Regs: full(), PC: math.MaxUint64}, {Regs: unlike(), PC: 0xf1f2f3f4f5f6f7f8}, {PC: 8}, {PC: 3}, {PC: math.MaxUint64}, {Regs: unlike()}}
	for i := range 8 {
		var one api.Cpu
		one.Regs[i] = math.MaxUint64
		out = append(out, one)
	}
	return out
}

// replies are what enterings bring, at their edges.
func replies() []api.In {
	most := uint64(math.MaxUint64)
	out := []api.In{{}, {Regs: [4]uint64{most, most, most, most}}, {Regs: [4]uint64{1, 2, 3, 4}}, {Regs: [4]uint64{0xa8a7a6a5a4a3a2a1, 0xb8b7b6b5b4b3b2b1, 0xc8c7c6c5c4c3c2c1, 0xd8d7d6d5d4d3d2d1}}}
	for i := range 4 {
		for _, w := range edgeWords() {
			var one api.In
			one.Regs[i] = w
			out = append(out, one)
		}
	}
	return out
}

// recs are vCPUs of all kinds, those among them that can't be, but for their Waits.
func recs() []api.Rec {
	var out []api.Rec
	for n, c := range states() {
		rd := []int{0, 1, 4095, -1, math.MaxInt, math.MinInt}[n%6]
		instance := []uint64{0, 1, 7, 1 << 32, math.MaxUint64}[n%5]
		for _, runnable := range []bool{false, true} {
			out = append(out, api.Rec{RD: rd, Instance: instance, Cpu: c, Runnable: runnable})
		}
	}
	return out
}

// waiting is recs with each Wait, those that are none among them.
func waiting() []api.Rec {
	var out []api.Rec
	for _, r := range recs() {
		for _, w := range append(allWaits(), wrongWaits()...) {
			r.Waits = w
			out = append(out, r)
		}
	}
	return out
}

// mayModel says whether it may be entered.
func mayModel(r api.Rec) bool { return r.Runnable && r.Waits != 3 }

// enterModel goes over the registers one by one.
func enterModel(r api.Rec, in api.In) (api.Rec, api.Errno) {
	if !mayModel(r) {
		return api.Rec{}, api.ErrState
	}
	out := api.Rec{RD: r.RD, Instance: r.Instance, Runnable: true}
	out.Cpu.PC = r.Cpu.PC
	for i := range 8 {
		if i < 4 && r.Waits == 1 {
			out.Cpu.Regs[i] = in.Regs[i]
		} else {
			out.Cpu.Regs[i] = r.Cpu.Regs[i]
		}
	}
	return out, api.OK
}

// leaveModel looks at an exit's Reason and Ran alone.
func leaveModel(r api.Rec, c api.Cpu, o api.Out) (api.Rec, api.Errno) {
	if o.Reason < 1 || o.Reason > 5 || o.Ran < 0 {
		return api.Rec{}, api.ErrArg
	}
	wait := []api.Wait{0, 0, 1, 2, 0, 3}[o.Reason]
	return api.Rec{RD: r.RD, Instance: r.Instance, Cpu: c, Runnable: r.Runnable, Waits: wait}, api.OK
}

// put lays words into a granule, one behind the other, the lowest byte first.
func put(l ...uint64) api.Granule {
	var g api.Granule
	for i, w := range l {
		binary.LittleEndian.PutUint64(g[8*i:], w)
	}
	return g
}

func word(g api.Granule, i int) uint64 { return binary.LittleEndian.Uint64(g[8*i : 8*i+8]) }

// noughts says whether all bytes are 0.
func noughts(b []byte) bool {
	for _, c := range b {
		if c != 0 {
			return false
		}
	}
	return true
}

// inModel is what g brings, and whether it is a form.
func inModel(g api.Granule) (api.In, bool) {
	if !noughts(g[inEnd:]) {
		return api.In{}, false
	}
	return api.In{Regs: [4]uint64{word(g, 0), word(g, 1), word(g, 2), word(g, 3)}}, true
}

// outModel is what g tells, and whether it is a form: by its bytes alone, one thing after the other.
func outModel(g api.Granule) (api.Out, bool) {
	reason, write, ran := word(g, 0), word(g, 6), word(g, 7)
	if !noughts(g[outEnd:]) || reason < 1 || reason > 5 || write > 1 || ran > maxFuel {
		return api.Out{}, false
	}
	noRegs, noAddr, noWrite := noughts(g[8:40]), noughts(g[40:48]), noughts(g[48:56])
	switch reason {
	case 2:
		if !noAddr || !noWrite {
			return api.Out{}, false
		}
	case 3:
		if !noRegs {
			return api.Out{}, false
		}
	default:
		if !noRegs || !noAddr || !noWrite {
			return api.Out{}, false
		}
	}
	return api.Out{
		Reason: api.Reason(reason),
		Regs:   [4]uint64{word(g, 1), word(g, 2), word(g, 3), word(g, 4)},
		Addr:   word(g, 5),
		Write:  write == 1,
		Ran:    int(ran),
	}, true
}

// layout is where an exit's words stand, whether it may be told or not.
func layout(o api.Out) api.Granule {
	write := uint64(0)
	if o.Write {
		write = 1
	}
	return put(uint64(o.Reason), o.Regs[0], o.Regs[1], o.Regs[2], o.Regs[3], o.Addr, write, uint64(o.Ran))
}

// tellModel says whether an exit may be told.
func tellModel(o api.Out) bool {
	if o.Ran < 0 || o.Ran > maxFuel {
		return false
	}
	regs := o.Regs[0] == 0 && o.Regs[1] == 0 && o.Regs[2] == 0 && o.Regs[3] == 0
	switch o.Reason {
	case 1, 4, 5:
		return regs && o.Addr == 0 && !o.Write
	case 2:
		return o.Addr == 0 && !o.Write
	case 3:
		return regs
	}
	return false
}

// rightOuts are exits that may be told.
func rightOuts() []api.Out {
	var out []api.Out
	for _, ran := range rightRans() {
		for _, reason := range []api.Reason{1, 4, 5} {
			out = append(out, api.Out{Reason: reason, Ran: ran})
		}
		for _, in := range replies() {
			out = append(out, api.Out{Reason: 2, Regs: in.Regs, Ran: ran})
		}
		for _, addr := range edgeWords() {
			out = append(out, api.Out{Reason: 3, Addr: addr, Ran: ran}, api.Out{Reason: 3, Addr: addr, Write: true, Ran: ran})
		}
	}
	return out
}

// checkRest holds what is told of a vCPU that rests against the model.
func checkRest(t *testing.T, r api.Rec, in api.In) {
	t.Helper()
	may := api.ErrState
	if mayModel(r) {
		may = api.OK
	}
	if e := rec.May(r); e != may {
		t.Errorf("May(%v): %d, not %d", r, e, may)
	}
	want, why := enterModel(r, in)
	if x, e := rec.Enter(r, in); x != want || e != why {
		t.Errorf("Enter(%v, %v): %v, %d; not %v, %d", r, in, x, e, want, why)
	}
}

// checkLeave holds what comes of an exit against the model.
func checkLeave(t *testing.T, r api.Rec, c api.Cpu, o api.Out) {
	t.Helper()
	want, why := leaveModel(r, c, o)
	if x, e := rec.Leave(r, c, o); x != want || e != why {
		t.Errorf("Leave(%v, %v, %v): %v, %d; not %v, %d", r, c, o, x, e, want, why)
	}
}

// checkIn holds what is read of g as what an entering brings against the model, and says whether it is a form.
func checkIn(t *testing.T, g api.Granule) bool {
	t.Helper()
	want, is := inModel(g)
	x, e := rec.InOf(g)
	if is && (x != want || e != api.OK || rec.InBytes(x) != g) || !is && (x != api.In{} || e != api.ErrBytes) {
		t.Errorf("InOf(% x): %v, %d; not %v, %v", g, x, e, want, is)
	}
	return is
}

// checkOut is checkIn of what an exit tells.
func checkOut(t *testing.T, g api.Granule) bool {
	t.Helper()
	want, is := outModel(g)
	o, e := rec.OutOf(g)
	if is && (o != want || e != api.OK) || !is && (o != api.Out{} || e != api.ErrBytes) {
		t.Errorf("OutOf(% x): %v, %d; not %v, %v", g, o, e, want, is)
	}
	if again, f := rec.OutBytes(want); is && (again != g || f != api.OK) {
		t.Errorf("OutBytes(%v): % x, %d", want, again, f)
	}
	return is
}

// checkTold holds the form of an exit against the model, and says whether it may be told.
func checkTold(t *testing.T, o api.Out) bool {
	t.Helper()
	may := tellModel(o)
	g, e := rec.OutBytes(o)
	if may && (g != layout(o) || e != api.OK) || !may && (g != api.Granule{} || e != api.ErrArg) {
		t.Errorf("OutBytes(%v): % x, %d; %v", o, g, e, may)
	}
	if checkOut(t, layout(o)) != may {
		t.Errorf("OutOf takes what OutBytes does not, or the other way round: %v", o)
	}
	return may
}

func pick[T any](r *rand.Rand, l []T) T { return l[r.Intn(len(l))] }

// anyWord is a word, by chance, with edges and small ones often.
func anyWord(r *rand.Rand) uint64 {
	switch r.Intn(4) {
	case 0:
		return 0
	case 1:
		return uint64(r.Intn(8))
	case 2:
		return pick(r, edgeWords())
	}
	return r.Uint64()
}

func anyIn(r *rand.Rand) api.In {
	return api.In{Regs: [4]uint64{anyWord(r), anyWord(r), anyWord(r), anyWord(r)}}
}

func anyCpu(r *rand.Rand) api.Cpu {
	var c api.Cpu
	for i := range c.Regs {
		c.Regs[i] = anyWord(r)
	}
	c.PC = anyWord(r)
	return c
}

func anyRec(r *rand.Rand) api.Rec {
	return api.Rec{RD: int(anyWord(r)), Instance: anyWord(r), Cpu: anyCpu(r), Runnable: r.Intn(4) != 0, Waits: api.Wait(r.Intn(6) - 1)}
}

func anyOut(r *rand.Rand) api.Out {
	o := api.Out{Reason: api.Reason(r.Intn(8) - 1), Ran: pick(r, rightRans())}
	switch r.Intn(6) {
	case 0:
		o.Ran = pick(r, append(ransBelow(), ransBeyond()...))
	case 1:
		o.Reason = pick(r, wrongReasons())
	}
	if r.Intn(2) == 0 {
		o.Regs = anyIn(r).Regs
	}
	if r.Intn(2) == 0 {
		o.Addr, o.Write = anyWord(r), r.Intn(2) == 0
	}
	return o
}
