package granule

import (
	"testing"

	"anchorite/api"
)

// P7.3: a granule is held 2^31 - 1 times at most. The number is laid here, since to come to it call by call takes too long.
func TestHeldTheMost(t *testing.T) {
	const most = 2147483647
	for _, s := range []api.GState{api.Undelegated, api.Delegated, api.StateData} {
		x, e := New(2)
		if e != api.OK {
			t.Fatal(e)
		}
		row := api.Row{State: s, Held: most - 1}
		if s == api.StateData {
			row.Owner = 7
		}
		x.rows[1] = row
		if e := x.Hold(1); e != api.OK {
			t.Fatal("Hold, the last one:", e)
		}
		row.Held = most
		for range 2 {
			if e := x.Hold(1); e != api.ErrLimit {
				t.Error("Hold, one too many:", e)
			}
			if got, e := x.Row(1); e != api.OK || got != row {
				t.Error("what is refused changes it:", got, e)
			}
		}
		if e := x.Hold(2); e != api.ErrArg {
			t.Error("Hold of no granule:", e)
		}
		if x.Hold(0) != api.OK {
			t.Error("another granule is not held as often")
		}
		if x.Let(1) != api.OK || x.Hold(1) != api.OK || x.Hold(1) != api.ErrLimit {
			t.Error("let go once, and held again")
		}
	}
}
