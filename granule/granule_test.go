package granule_test

import (
	"math"
	"math/rand"
	"slices"
	"testing"

	"anchorite/api"
	"anchorite/granule"
)

const (
	und  = api.Undelegated
	del  = api.Delegated
	rd   = api.StateRD
	rec  = api.StateRec
	tab  = api.StateTable
	data = api.StateData
)

// grid has a row for each state from which a step goes, and in it an x for each to which one does.
var grid = [6]string{
	und:  ".x....",
	del:  "x.xxxx",
	rd:   ".x....",
	rec:  ".x....",
	tab:  ".x....",
	data: ".x....",
}

// states are all that there are.
func states() []api.GState { return []api.GState{und, del, rd, rec, tab, data} }

// anyStates are all that there are, and some that are none.
func anyStates() []api.GState {
	return append(states(), -1, -2, 6, 7, 8, 256, 1<<32, 1<<32+1, math.MinInt, math.MaxInt)
}

func isState(s api.GState) bool { return s >= und && s <= data }

func isStep(from, to api.GState) bool {
	return isState(from) && isState(to) && grid[from][to] == 'x'
}

// owned says whether a granule of that state has an owner.
func owned(s api.GState) bool { return s == rd || s == rec || s == tab || s == data }

// ownerOf is an owner that a granule of that state may have: this one, or 0.
func ownerOf(s api.GState, owner uint64) uint64 {
	if owned(s) {
		return owner
	}
	return 0
}

// stepCode is what Step of a granule with that row should answer, in the order of the errors.
func stepCode(row api.Row, from, to api.GState, owner uint64) api.Errno {
	switch {
	case !isStep(from, to):
		return api.ErrArg
	case owned(to) && owner == 0, !owned(to) && owner != 0:
		return api.ErrArg
	case row.State != from:
		return api.ErrState
	case from != del && row.Held > 0:
		return api.ErrUse
	}
	return api.OK
}

// fresh is a table of n granules of the host's.
func fresh(t *testing.T, n int) *granule.Table {
	t.Helper()
	x, e := granule.New(n)
	if e != api.OK || x == nil {
		t.Fatalf("New(%d): %v, %v", n, x, e)
	}
	return x
}

// lay makes of a granule of the host's, that is not held, one with that row.
func lay(t *testing.T, x *granule.Table, g int, row api.Row) {
	t.Helper()
	if row.State != und {
		must(t, x.Step(g, und, del, 0), "to Delegated", g)
	}
	if owned(row.State) {
		must(t, x.Step(g, del, row.State, row.Owner), "to", row.State, g)
	}
	for range row.Held {
		must(t, x.Hold(g), "Hold", g)
	}
}

// laid is a table with these rows.
func laid(t *testing.T, rows ...api.Row) *granule.Table {
	t.Helper()
	x := fresh(t, len(rows))
	for g, row := range rows {
		lay(t, x, g, row)
	}
	mustHave(t, x, rows, "laid")
	return x
}

// sample are rows of all states, held and not, of two owners.
func sample() []api.Row {
	return []api.Row{
		{State: und}, {State: data, Owner: 7}, {State: del, Held: 1}, {State: rd, Owner: 7, Held: 3},
		{State: rec, Owner: 9}, {State: tab, Owner: 7}, {State: und, Held: 2}, {State: del},
		{State: data, Owner: 9, Held: 1}, {State: data, Owner: 7, Held: 1}, {State: und},
	}
}

func must(t *testing.T, e api.Errno, what ...any) {
	t.Helper()
	if e != api.OK {
		t.Fatal(append(what, e)...)
	}
}

func rowsOf(t *testing.T, x *granule.Table) []api.Row {
	t.Helper()
	var out []api.Row
	for g := range x.Granules() {
		row, e := x.Row(g)
		must(t, e, "Row", g)
		out = append(out, row)
	}
	return out
}

// mustHave says of x that its rows are these, and no others.
func mustHave(t *testing.T, x *granule.Table, want []api.Row, what ...any) {
	t.Helper()
	if got := rowsOf(t, x); !slices.Equal(got, want) {
		t.Fatal("other rows than there should be", got, want, what)
	}
}

// item is what Of tells at a time.
type item struct {
	g int
	s api.GState
}

func allOf(x *granule.Table, owner uint64) []item {
	var out []item
	for g, s := range x.Of(owner) {
		out = append(out, item{g, s})
	}
	return out
}

// none are the tables that are not there.
func none() map[string]*granule.Table {
	return map[string]*granule.Table{"nil": nil, "zero": {}}
}

// noGranules are numbers of granules that a table of n does not have.
func noGranules(n int) []int {
	return []int{-1, -2, -n, math.MinInt, n, n + 1, 2*n + 7, api.MaxGranules, api.MaxGranules + 1, math.MaxInt32, 1 << 32, 1 << 57, math.MaxInt}
}

// P7.1

func TestNew(t *testing.T) {
	for _, n := range []int{1, 2, 3, 4095, api.MaxGranules} {
		x := fresh(t, n)
		if x.Granules() != n {
			t.Errorf("New(%d): %d granules", n, x.Granules())
		}
		mustHave(t, x, make([]api.Row, n), n)
	}
}

func TestNewRefuses(t *testing.T) {
	for _, n := range []int{0, -1, -2, -api.MaxGranules, math.MinInt, api.MaxGranules + 1, api.MaxGranules + 2, math.MaxInt32, math.MaxInt32 + 2, 1<<32 + 1, math.MaxInt} {
		if x, e := granule.New(n); x != nil || e != api.ErrArg {
			t.Errorf("New(%d): %v, %v", n, x, e)
		}
	}
}

func TestNewOnesAreApart(t *testing.T) {
	a, b := fresh(t, 2), fresh(t, 2)
	must(t, a.Hold(0))
	must(t, a.Step(1, und, del, 0))
	mustHave(t, b, make([]api.Row, 2))
}

func TestRowOfTheFirstAndTheLast(t *testing.T) {
	for _, n := range []int{1, 2, 5, api.MaxGranules} {
		for _, g := range []int{0, n / 2, n - 1} {
			x, row := fresh(t, n), api.Row{State: tab, Owner: 5, Held: 2}
			lay(t, x, g, row)
			want := make([]api.Row, n)
			want[g] = row
			mustHave(t, x, want, g, n)
		}
	}
}

func TestGranulesStayAsMany(t *testing.T) {
	x := laid(t, sample()...)
	x.Hold(len(sample()))
	x.Step(len(sample()), und, del, 0)
	x.Step(0, und, del, 0)
	x.Let(3)
	if x.Granules() != len(sample()) {
		t.Error(x.Granules())
	}
	for name, x := range none() {
		if x.Granules() != 0 {
			t.Error(name, x.Granules())
		}
	}
}

func TestGranulesThatThereAreNot(t *testing.T) {
	for _, rows := range [][]api.Row{{{State: und}}, {{State: data, Owner: 7}}, {{State: del, Held: 1}, {State: und, Held: 1}}, sample(), make([]api.Row, api.MaxGranules)} {
		x := laid(t, rows...)
		for _, g := range noGranules(len(rows)) {
			if row, e := x.Row(g); e != api.ErrArg || row != (api.Row{}) {
				t.Errorf("Row(%d) of %d: %v, %v", g, len(rows), row, e)
			}
			for _, e := range []api.Errno{x.Hold(g), x.Let(g), x.Step(g, und, del, 0), x.Step(g, del, data, 7), x.Step(g, data, del, 0)} {
				if e != api.ErrArg {
					t.Errorf("%d of %d: %v", g, len(rows), e)
				}
			}
			if x.Host(g) {
				t.Errorf("Host(%d) of %d", g, len(rows))
			}
		}
		mustHave(t, x, rows)
	}
}

func TestNoTableIsToldAheadOfAll(t *testing.T) {
	for name, x := range none() {
		for _, g := range []int{0, 1, -1, math.MinInt, math.MaxInt} {
			if row, e := x.Row(g); e != api.ErrNil || row != (api.Row{}) {
				t.Errorf("%s: Row(%d): %v, %v", name, g, row, e)
			}
			for _, e := range []api.Errno{x.Hold(g), x.Let(g), x.Step(g, und, del, 0), x.Step(g, und, data, 0), x.Step(g, -1, 9, 3)} {
				if e != api.ErrNil {
					t.Errorf("%s: %d: %v", name, g, e)
				}
			}
			if x.Host(g) {
				t.Errorf("%s: Host(%d)", name, g)
			}
		}
		if x.Granules() != 0 || !x.Same(nil) {
			t.Error(name, "has rows now")
		}
	}
}

// P7.2

func TestExamples(t *testing.T) {
	x := fresh(t, 2)
	mustBe := func(got, want api.Errno, what string) {
		t.Helper()
		if got != want {
			t.Error(what, got)
		}
	}
	mustBe(x.Step(0, und, del, 0), api.OK, "Step(0, Undelegated, Delegated, 0)")
	mustBe(x.Step(0, del, data, 7), api.OK, "Step(0, Delegated, StateData, 7)")
	if row, e := x.Row(0); e != api.OK || row != (api.Row{State: data, Owner: 7}) {
		t.Error("Row(0)", row, e)
	}
	mustBe(x.Hold(0), api.OK, "Hold(0)")
	mustBe(x.Step(0, data, del, 0), api.ErrUse, "Step(0, StateData, Delegated, 0)")
	mustBe(x.Let(0), api.OK, "Let(0)")
	mustBe(x.Let(0), api.ErrNone, "Let(0), again")
	mustBe(x.Step(1, und, data, 7), api.ErrArg, "Step(1, Undelegated, StateData, 7)")
	mustBe(x.Step(1, del, data, 7), api.ErrState, "Step(1, Delegated, StateData, 7)")
	mustHave(t, x, []api.Row{{State: data, Owner: 7}, {}})
}

func TestMay(t *testing.T) {
	n := 0
	for _, from := range anyStates() {
		for _, to := range anyStates() {
			if granule.May(from, to) != isStep(from, to) {
				t.Errorf("May(%d, %d): %v", from, to, !isStep(from, to))
			}
			if granule.May(from, to) {
				n++
			}
		}
	}
	if n != 10 {
		t.Error(n, "steps")
	}
}

// Each step that there is, of the first granule and of the last, for the least owner and the greatest.
func TestEachStep(t *testing.T) {
	for _, n := range []int{1, 3, api.MaxGranules} {
		for _, g := range []int{0, n - 1} {
			for _, from := range states() {
				for _, to := range states() {
					for _, owner := range []uint64{1, 2, 1 << 32, 1 << 63, math.MaxUint64} {
						if !isStep(from, to) {
							continue
						}
						x, want := fresh(t, n), make([]api.Row, n)
						lay(t, x, g, api.Row{State: from, Owner: ownerOf(from, 3)})
						must(t, x.Step(g, from, to, ownerOf(to, owner)), from, to, owner)
						want[g] = api.Row{State: to, Owner: ownerOf(to, owner)}
						if row, e := x.Row(g); e != api.OK || row != want[g] {
							t.Fatal(from, to, row, e)
						}
						if n < 9 {
							mustHave(t, x, want, from, to, owner)
						}
					}
				}
			}
		}
	}
}

// Whatever the row, whatever is asked: the first of the errors that are so, and nothing changes; or the step.
func TestStepOfEachRow(t *testing.T) {
	for _, state := range states() {
		for _, held := range []int{0, 1, 2} {
			before := api.Row{State: state, Owner: ownerOf(state, 7), Held: held}
			beside := api.Row{State: data, Owner: 7}
			for _, from := range anyStates() {
				for _, to := range anyStates() {
					for _, owner := range []uint64{0, 1, 7, math.MaxUint64} {
						x := laid(t, beside, before, beside)
						code := stepCode(before, from, to, owner)
						if e := x.Step(1, from, to, owner); e != code {
							t.Fatalf("%v: Step(%d, %d, %d): %v, not %v", before, from, to, owner, e, code)
						}
						after := before
						if code == api.OK {
							after = api.Row{State: to, Owner: owner, Held: held}
						}
						mustHave(t, x, []api.Row{beside, after, beside}, from, to, owner)
					}
				}
			}
		}
	}
}

// Several faults at once: the one that the chapter names first.
func TestOrderOfErrors(t *testing.T) {
	rows := []api.Row{{State: und, Held: 1}, {State: del, Held: 1}, {State: data, Owner: 7, Held: 1}}
	x := laid(t, rows...)
	for i, c := range []struct {
		g        int
		from, to api.GState
		owner    uint64
		e        api.Errno
	}{
		{3, und, del, 0, api.ErrArg},   // no such granule
		{-1, del, data, 0, api.ErrArg}, // nor an owner
		{0, und, data, 7, api.ErrArg},  // no step, and held
		{1, und, und, 0, api.ErrArg},   // no step, another state, and held
		{0, und, del, 7, api.ErrArg},   // an owner, and held
		{0, del, data, 0, api.ErrArg},  // no owner, another state, and held
		{2, rd, del, 7, api.ErrArg},    // an owner, another state, and held
		{2, data, 9, 7, api.ErrArg},    // no state, and held
		{2, -1, del, 0, api.ErrArg},    // no state, another one, and held
		{0, data, del, 0, api.ErrState},
		{1, und, del, 0, api.ErrState},
		{2, rd, del, 0, api.ErrState},
		{2, und, del, 0, api.ErrState},
		{0, und, del, 0, api.ErrUse},
		{2, data, del, 0, api.ErrUse},
	} {
		if e := x.Step(c.g, c.from, c.to, c.owner); e != c.e {
			t.Error(i, e, c.e)
		}
	}
	mustHave(t, x, rows)
}

// Delegated that is held goes to each other state as it is held; back only when it was let go as often.
func TestDelegatedThatIsHeld(t *testing.T) {
	for _, to := range []api.GState{und, rd, rec, tab, data} {
		for _, held := range []int{1, 2, 5} {
			x := laid(t, api.Row{State: del, Held: held})
			must(t, x.Step(0, del, to, ownerOf(to, 7)), to, held)
			for h := held; h > 0; h-- {
				mustHave(t, x, []api.Row{{State: to, Owner: ownerOf(to, 7), Held: h}}, to, held)
				if e := x.Step(0, to, del, 0); e != api.ErrUse {
					t.Error(to, h, e)
				}
				must(t, x.Let(0), to, h)
			}
			must(t, x.Step(0, to, del, 0), to, held)
			mustHave(t, x, []api.Row{{State: del}}, to, held)
		}
	}
}

func TestOwnerGoesWithTheStep(t *testing.T) {
	x := laid(t, api.Row{State: rec, Owner: 4})
	must(t, x.Step(0, rec, del, 0))
	mustHave(t, x, []api.Row{{State: del}})
	must(t, x.Step(0, del, tab, 5))
	mustHave(t, x, []api.Row{{State: tab, Owner: 5}})
}

// P7.3

func TestHoldAndLet(t *testing.T) {
	for _, n := range []int{1, 2, api.MaxGranules} {
		for _, g := range []int{0, n - 1} {
			for _, s := range states() {
				x, row := fresh(t, n), api.Row{State: s, Owner: ownerOf(s, 7)}
				lay(t, x, g, row)
				mustHold := func(held int) {
					t.Helper()
					row.Held = held
					if got, e := x.Row(g); e != api.OK || got != row {
						t.Fatal(n, g, got, e)
					}
				}
				for i := range 10 {
					mustHold(i)
					must(t, x.Hold(g), s)
				}
				for i := range 10 {
					mustHold(10 - i)
					must(t, x.Let(g), s)
				}
				mustHold(0)
				for range 2 {
					if e := x.Let(g); e != api.ErrNone {
						t.Error(s, e)
					}
					mustHold(0)
				}
				must(t, x.Hold(g), s)
				mustHold(1)
			}
		}
	}
}

func TestOneIsHeldAndNoOther(t *testing.T) {
	want := sample()
	x := laid(t, want...)
	for g := range want {
		must(t, x.Hold(g), g)
		want[g].Held++
		mustHave(t, x, want, "Hold", g)
	}
	for g := range want {
		must(t, x.Let(g), g)
		want[g].Held--
		mustHave(t, x, want, "Let", g)
	}
}

func TestHost(t *testing.T) {
	for _, n := range []int{1, 3, api.MaxGranules} {
		x := fresh(t, n)
		for _, g := range []int{0, n / 2, n - 1} {
			if !x.Host(g) {
				t.Errorf("Host(%d) of %d", g, n)
			}
		}
	}
	for _, s := range states() {
		for _, held := range []int{0, 1} {
			x := laid(t, api.Row{}, api.Row{State: s, Owner: ownerOf(s, 7), Held: held}, api.Row{})
			if x.Host(1) != (s == und) || !x.Host(0) || !x.Host(2) {
				t.Error(s, held)
			}
		}
	}
	x := laid(t, api.Row{State: del})
	must(t, x.Step(0, del, und, 0))
	if !x.Host(0) {
		t.Error("not the host's again")
	}
}

// P7.4

func TestCount(t *testing.T) {
	x := laid(t, sample()...)
	for _, s := range anyStates() {
		for _, owner := range []uint64{0, 1, 6, 7, 8, 9, math.MaxUint64} {
			want := 0
			for _, row := range sample() {
				if row.State == s && row.Owner == owner {
					want++
				}
			}
			if n := x.Count(s, owner); n != want {
				t.Errorf("Count(%d, %d): %d, not %d", s, owner, n, want)
			}
		}
	}
	if x.Count(und, 0) != 3 || x.Count(del, 0) != 2 || x.Count(data, 7) != 2 || x.Count(data, 9) != 1 || x.Count(data, 0) != 0 || x.Count(und, 7) != 0 {
		t.Error("Count")
	}
	mustHave(t, x, sample())
}

func TestCountOfTheLeastAndTheMost(t *testing.T) {
	for _, n := range []int{1, api.MaxGranules} {
		for _, owner := range []uint64{1, math.MaxUint64} {
			x := fresh(t, n)
			if x.Count(und, 0) != n || x.Count(del, 0) != 0 || x.Count(und, owner) != 0 {
				t.Error(n, "at the beginning")
			}
			for g := range n {
				lay(t, x, g, api.Row{State: data, Owner: owner, Held: g % 2})
			}
			if x.Count(data, owner) != n || x.Count(und, 0) != 0 || x.Count(data, 2) != 0 || x.Count(rd, owner) != 0 {
				t.Error(n, "behind it")
			}
		}
	}
	for name, x := range none() {
		if x.Count(und, 0) != 0 || x.Count(data, 7) != 0 || x.Count(-1, 0) != 0 {
			t.Error(name)
		}
	}
}

func TestOf(t *testing.T) {
	x := laid(t, sample()...)
	for owner, want := range map[uint64][]item{
		7: {{1, data}, {3, rd}, {5, tab}, {9, data}},
		9: {{4, rec}, {8, data}},
		0: {{0, und}, {2, del}, {6, und}, {7, del}, {10, und}}, // those whose Owner is 0
		1: nil, 6: nil, 8: nil, 1 << 32: nil, 1<<32 + 7: nil, math.MaxUint64: nil,
	} {
		if got := allOf(x, owner); !slices.Equal(got, want) {
			t.Errorf("Of(%d): %v", owner, got)
		}
	}
	mustHave(t, x, sample())
}

func TestOfAnOwnerThatHasAll(t *testing.T) {
	for _, n := range []int{1, 4, api.MaxGranules} {
		for _, owner := range []uint64{1, math.MaxUint64} {
			x := fresh(t, n)
			var want []item
			for g := range n {
				s := []api.GState{rd, rec, tab, data}[g%4]
				lay(t, x, g, api.Row{State: s, Owner: owner})
				want = append(want, item{g, s})
			}
			if got := allOf(x, owner); !slices.Equal(got, want) {
				t.Error(n, owner, len(got))
			}
			for _, other := range []uint64{0, 2, owner - 1, owner + 1} {
				if got := allOf(x, other); len(got) != 0 {
					t.Error(n, other, len(got))
				}
			}
		}
	}
	for name, x := range none() {
		for _, owner := range []uint64{0, 1, 7, math.MaxUint64} {
			if x.Of(owner) == nil || len(allOf(x, owner)) != 0 {
				t.Error(name, owner)
			}
		}
	}
}

func TestOfIsLeftEarly(t *testing.T) {
	x := laid(t, sample()...)
	want := allOf(x, 7)
	of := x.Of(7)
	for stop := range want {
		var got []item
		for g, s := range of {
			got = append(got, item{g, s})
			if len(got) == stop+1 {
				break
			}
		}
		if !slices.Equal(got, want[:stop+1]) {
			t.Error(stop, got)
		}
	}
	calls := 0
	of(func(int, api.GState) bool { calls++; return false })
	if calls != 1 {
		t.Error("goes on when it was left:", calls)
	}
	for range 2 { // as often as one likes, and each time from the beginning
		var got []item
		for g, s := range of {
			got = append(got, item{g, s})
		}
		if !slices.Equal(got, want) {
			t.Error(got)
		}
	}
}

func TestOfIsAsItWasWhenCalled(t *testing.T) {
	x := laid(t, sample()...)
	want := allOf(x, 7)
	of, gone := x.Of(7), x.Of(1)
	must(t, x.Step(1, data, del, 0))
	must(t, x.Step(5, tab, del, 0))
	must(t, x.Step(5, del, rec, 7))
	must(t, x.Step(7, del, data, 7))
	must(t, x.Step(1, del, data, 1))
	for range 2 {
		var got []item
		for g, s := range of {
			got = append(got, item{g, s})
		}
		if !slices.Equal(got, want) {
			t.Error("what was done later is seen:", got)
		}
		for g := range gone {
			t.Error("an owner of later is seen:", g)
		}
	}
	if l := allOf(x, 7); !slices.Equal(l, []item{{3, rd}, {5, rec}, {7, data}, {9, data}}) {
		t.Error("called again:", l)
	}
}

func TestTableThatIsChangedWhileItIsGoneOver(t *testing.T) {
	rows := []api.Row{{State: data, Owner: 7}, {State: rec, Owner: 7}, {State: del}, {State: tab, Owner: 7}}
	x := laid(t, rows...)
	want := allOf(x, 7)
	var got []item
	for g, s := range x.Of(7) {
		got = append(got, item{g, s})
		for h, s := range x.Of(7) { // one within another: all are gone at the first round
			must(t, x.Step(h, s, del, 0))
		}
		if g == 0 {
			must(t, x.Step(2, del, data, 7))
			must(t, x.Step(3, del, rd, 7))
		}
	}
	if !slices.Equal(got, want) {
		t.Error(got)
	}
	mustHave(t, x, []api.Row{{State: del}, {State: del}, {State: del}, {State: del}})
}

// changes are calls, each of which changes a table that begins with sample's rows.
func changes() map[string]func(*granule.Table) api.Errno {
	return map[string]func(*granule.Table) api.Errno{
		"Step": func(x *granule.Table) api.Errno { return x.Step(0, und, del, 0) },
		"Hold": func(x *granule.Table) api.Errno { return x.Hold(10) },
		"Let":  func(x *granule.Table) api.Errno { return x.Let(3) },
	}
}

func TestCopyGoesOnApart(t *testing.T) {
	for name, change := range changes() {
		for _, way := range []string{"the first", "the copy"} {
			x := laid(t, sample()...)
			c := x.Copy()
			if c == nil || c == x || c.Granules() != x.Granules() || !c.Same(x) || !x.Same(c) {
				t.Fatal("no copy, or another one")
			}
			mustHave(t, c, sample())
			changed, other := x, c
			if way == "the copy" {
				changed, other = c, x
			}
			must(t, change(changed), name)
			mustHave(t, other, sample(), name, way)
			if changed.Same(other) || other.Same(changed) {
				t.Error(name, way, "is seen in both")
			}
			must(t, change(other), name)
			if !changed.Same(other) {
				t.Error(name, "done to both")
			}
		}
	}
}

func TestCopyOfTheLeastAndTheMost(t *testing.T) {
	for _, n := range []int{1, api.MaxGranules} {
		x := fresh(t, n)
		lay(t, x, n-1, api.Row{State: rd, Owner: math.MaxUint64, Held: 1})
		c := x.Copy().Copy()
		must(t, x.Let(n-1))
		must(t, x.Step(n-1, rd, del, 0))
		if row, e := c.Row(n - 1); e != api.OK || row != (api.Row{State: rd, Owner: math.MaxUint64, Held: 1}) || c.Granules() != n {
			t.Error(n, row, e)
		}
	}
}

// A state, an owner or a hold more, of whichever granule, tells them apart.
func TestSame(t *testing.T) {
	first := []api.Row{{State: data, Owner: 7, Held: 1}, {State: data, Owner: 7, Held: 1}, {State: data, Owner: 7, Held: 1}}
	x := laid(t, first...)
	if !x.Same(x) || !x.Same(laid(t, first...)) {
		t.Error("not the same as one with the same rows")
	}
	for g := range first {
		for _, row := range []api.Row{{}, {State: rd, Owner: 7, Held: 1}, {State: data, Owner: 8, Held: 1}, {State: data, Owner: 1<<32 + 7, Held: 1}, {State: data, Owner: 7}, {State: data, Owner: 7, Held: 2}} {
			rows := slices.Clone(first)
			rows[g] = row
			if o := laid(t, rows...); o.Same(x) || x.Same(o) {
				t.Error("not told apart:", g, row)
			}
		}
	}
	// One that was changed, and changed back, is as it was.
	must(t, x.Let(1))
	must(t, x.Step(1, data, del, 0))
	must(t, x.Hold(1))
	must(t, x.Step(1, del, data, 7))
	if !x.Same(laid(t, first...)) {
		t.Error("as it was")
	}
}

func TestSameOfTwoSizes(t *testing.T) {
	for _, c := range [][2]int{{1, 2}, {2, 3}, {1, api.MaxGranules}, {api.MaxGranules - 1, api.MaxGranules}} {
		a, b := fresh(t, c[0]), fresh(t, c[1])
		if a.Same(b) || b.Same(a) {
			t.Error(c)
		}
		must(t, a.Hold(0))
		must(t, b.Hold(0))
		if a.Same(b) || b.Same(a) {
			t.Error("the same as far as one goes", c)
		}
	}
}

func TestNoTableIsTheSameAsNone(t *testing.T) {
	for name, a := range none() {
		if a.Copy() != nil {
			t.Error(name, "has a copy")
		}
		for other, b := range none() {
			if !a.Same(b) {
				t.Error(name, other)
			}
		}
		for _, n := range []int{1, 2, api.MaxGranules} {
			if x := fresh(t, n); a.Same(x) || x.Same(a) {
				t.Error(name, "is the same as", n)
			}
		}
	}
}

// P7.5

// follows says whether a row may be what one call makes of another.
func follows(before, after api.Row) bool {
	if before.State == after.State {
		return before.Owner == after.Owner
	}
	return before.State == del || after.State == del
}

func TestWhatFollows(t *testing.T) {
	r := rand.New(rand.NewSource(7))
	for range 20 {
		x := fresh(t, 1+r.Intn(4))
		rows := rowsOf(t, x)
		for range 2000 {
			call(r, x)
			now := rowsOf(t, x)
			for g, row := range now {
				if !follows(rows[g], row) {
					t.Fatal("past Delegated:", rows[g], row)
				}
				if !isState(row.State) || (row.Owner != 0) != owned(row.State) || row.Held < 0 {
					t.Fatal("no row:", row)
				}
			}
			rows = now
		}
	}
}

// No step leads from the host to a realm, or back, whatever is asked.
func TestNoStepPastDelegated(t *testing.T) {
	for _, s := range []api.GState{rd, rec, tab, data} {
		for _, owner := range []uint64{0, 1, 7, math.MaxUint64} {
			rows := []api.Row{{State: und}, {State: s, Owner: 7}}
			x := laid(t, rows...)
			if e := x.Step(0, und, s, owner); e != api.ErrArg {
				t.Error("from the host to", s, e)
			}
			if e := x.Step(1, s, und, owner); e != api.ErrArg {
				t.Error("to the host from", s, e)
			}
			for _, to := range []api.GState{rd, rec, tab, data} {
				if e := x.Step(1, s, to, owner); e != api.ErrArg {
					t.Error("from", s, "to", to, e)
				}
			}
			mustHave(t, x, rows)
		}
	}
}

// P0.8

// anyState is a state for the most part, and else any number.
func anyState(r *rand.Rand) api.GState {
	if r.Intn(12) == 0 {
		return anyStates()[r.Intn(len(anyStates()))]
	}
	return states()[r.Intn(6)]
}

// anyGranule is one of n for the most part.
func anyGranule(r *rand.Rand, n int) int {
	if r.Intn(12) == 0 {
		return noGranules(n)[r.Intn(len(noGranules(n)))]
	}
	return r.Intn(n)
}

func anyOwner(r *rand.Rand) uint64 {
	return []uint64{0, 0, 0, 1, 7, 8, 1 << 32, math.MaxUint64}[r.Intn(8)]
}

// asked is a call that may change a table.
type asked struct {
	what     int
	g        int
	from, to api.GState
	owner    uint64
}

// call does one thing to x, steps for the most part such as may be, and tells what it answered.
func call(r *rand.Rand, x *granule.Table) (asked, api.Errno) {
	a := asked{r.Intn(5), anyGranule(r, x.Granules()), anyState(r), anyState(r), anyOwner(r)}
	if row, e := x.Row(a.g); e == api.OK && r.Intn(3) > 0 {
		a.from = row.State
	}
	switch a.what {
	case 0:
		return a, x.Hold(a.g)
	case 1, 2:
		return a, x.Let(a.g)
	}
	return a, x.Step(a.g, a.from, a.to, a.owner)
}

// answer is what a call should answer, and what it should do to the rows.
func answer(rows []api.Row, a asked) api.Errno {
	if a.g < 0 || a.g >= len(rows) {
		return api.ErrArg
	}
	row := &rows[a.g]
	switch {
	case a.what == 0:
		row.Held++
	case a.what <= 2 && row.Held == 0:
		return api.ErrNone
	case a.what <= 2:
		row.Held--
	default:
		if e := stepCode(*row, a.from, a.to, a.owner); e != api.OK {
			return e
		}
		row.State, row.Owner = a.to, a.owner
	}
	return api.OK
}

// Whatever is asked, a table answers and has what a plain list of rows would.
func TestAnyInput(t *testing.T) {
	r := rand.New(rand.NewSource(2))
	seen := map[api.Errno]int{}
	for range 40 {
		n := 1 + r.Intn(5)
		x, rows := fresh(t, n), make([]api.Row, n)
		for range 1000 {
			a, e := call(r, x)
			seen[e]++
			if want := answer(rows, a); e != want {
				t.Fatalf("%+v: %v, not %v", a, e, want)
			}
			mustHave(t, x, rows, a)
			checkLooks(t, r, x, rows)
		}
	}
	for _, e := range []api.Errno{api.OK, api.ErrArg, api.ErrState, api.ErrUse, api.ErrNone} {
		if seen[e] < 100 {
			t.Error("hardly ever seen:", e, seen[e])
		}
	}
}

// checkLooks holds what changes nothing against the rows.
func checkLooks(t *testing.T, r *rand.Rand, x *granule.Table, rows []api.Row) {
	t.Helper()
	g, s, owner := anyGranule(r, len(rows)), anyState(r), anyOwner(r)
	if host := g >= 0 && g < len(rows) && rows[g].State == und; x.Host(g) != host {
		t.Fatal("Host", g, !host)
	}
	n, of := 0, []item(nil)
	for g, row := range rows {
		if row.State == s && row.Owner == owner {
			n++
		}
		if row.Owner == owner {
			of = append(of, item{g, row.State})
		}
	}
	if x.Count(s, owner) != n || !slices.Equal(allOf(x, owner), of) {
		t.Fatal("Count, Of", s, owner, rows)
	}
	if c := x.Copy(); !c.Same(x) || !x.Same(c) || c.Granules() != len(rows) {
		t.Fatal("Copy", rows)
	}
}
