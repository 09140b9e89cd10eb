package realm

import (
	"reflect"
	"testing"

	"anchorite/api"
	"anchorite/oracle"
)

// The numbers are laid here, since to come to them call by call takes too long.

// one is realms with one at the descriptor 3, and another beside it.
func one(t *testing.T, ideal bool) (*oracle.Oracle, *Realms) {
	t.Helper()
	o := oracle.New(ideal, api.Digest{1})
	x := New(o)
	for _, rd := range []int{3, 4} {
		if _, e := x.Create(rd, 5, api.RealmParams{Nodes: 128}, api.Digest{2}); e != api.OK {
			t.Fatal(e)
		}
	}
	return o, x
}

// P11.4: Counter just below MaxCounter, and at it, in each state.
func TestLastCounter(t *testing.T) {
	const most = 4294967296
	for _, ideal := range []bool{false, true} {
		for s := api.New; s <= api.Dead; s++ {
			o, x := one(t, ideal)
			r := x.realms[3]
			r.Counter, r.State = most-2, s
			x.realms[3] = r
			for want := uint64(most - 1); want <= most; want++ {
				if n, e := x.Next(3); n != want || e != api.OK {
					t.Fatal(n, e, "not", want)
				}
			}
			was, asked := x.realms[3], len(o.Log())
			if was.Counter != most {
				t.Error(was.Counter)
			}
			for range 2 {
				if n, e := x.Next(3); n != 0 || e != api.ErrLimit {
					t.Error(n, e)
				}
			}
			if got, e := x.Get(3); e != api.OK || !reflect.DeepEqual(got, was) || len(o.Log()) != asked {
				t.Error("what is refused changed something", got, e)
			}
			if n, e := x.Next(9); n != 0 || e != api.ErrNone {
				t.Error("of no realm", n, e)
			}
			if n, e := x.Next(4); n != 1 || e != api.OK {
				t.Error("another realm's", n, e)
			}
			if n, e := x.Copy(o).Next(3); n != 0 || e != api.ErrLimit {
				t.Error("a copy's", n, e)
			}
			if x.SetTree(3, api.Digest{9}) != api.OK || x.Kill(3) != api.OK || x.Drop(3) != api.OK {
				t.Error("all else goes on")
			}
		}
	}
}

// P11.1, P11.6: there are 2^32 instances; behind the last one no realm is made, and none is used again.
func TestLastInstance(t *testing.T) {
	const most = 4294967296
	for _, ideal := range []bool{false, true} {
		o, x := one(t, ideal)
		x.last = most - 2
		for want := uint64(most - 1); want <= most; want++ {
			r, e := x.Create(int(want), 5, api.RealmParams{}, api.Digest{})
			if e != api.OK || r.Instance != want {
				t.Fatal(r, e, "not", want)
			}
			if rd, is := x.Find(want); rd != int(want) || !is {
				t.Error(rd, is)
			}
		}
		l := o.Log()
		if q := l[len(l)-1].Question; q.Kind != api.QKey || !reflect.DeepEqual(q.Data, []byte{0, 0, 0, 0, 1, 0, 0, 0}) {
			t.Error("the last one's key", q)
		}
		used := o.Used()
		refused := func(x *Realms, rd, root int, want api.Errno) {
			t.Helper()
			many := len(x.realms)
			r, e := x.Create(rd, root, api.RealmParams{Value: api.Digest{7}}, api.Digest{})
			if e != want || !reflect.DeepEqual(r, api.Realm{}) || len(x.realms) != many || x.last != most {
				t.Error(rd, root, r, e, "not", want)
			}
			if len(o.Log()) != len(l) || o.Used() != used {
				t.Error("what is refused asked something")
			}
		}
		refused(x, 7, 5, api.ErrLimit)
		refused(x, 3, 5, api.ErrState) // there is one, ahead of none is left
		refused(x, -1, 5, api.ErrArg)
		refused(x, 7, -1, api.ErrArg)
		refused(x.Copy(o), 7, 5, api.ErrLimit)
		if x.Drop(3) != api.OK || x.Drop(most) != api.OK {
			t.Error("Drop")
		}
		refused(x, 3, 5, api.ErrLimit)
		refused(x, most, 5, api.ErrLimit)
	}
}
