package conn_test

import (
	"testing"

	"blockyard/api"
	"blockyard/conn"
)

// stand is an end, how many numbers it has sent, how many of them were acknowledged, and how many of his it waits behind.
type stand struct {
	*end
	sent, acked, want int
}

// ways lead into each state: with nothing written, with the Fin sent at once, and his Fin without data.
func ways() map[int]func(x *end) stand {
	return map[int]func(x *end) stand{
		conn.SynIn: func(x *end) stand { return stand{x, 0, 0, 0} },
		conn.Open: func(x *end) stand {
			x.in(0, 0, 1000, "")
			return stand{x, 0, 0, 0}
		},
		conn.FinSent: func(x *end) stand {
			x.in(0, 0, 1000, "")
			x.Close()
			return stand{x, 1, 0, 0}
		},
		conn.FinDone: func(x *end) stand {
			x.in(0, 0, 1000, "")
			x.Close()
			x.in(0, 1, 1000, "")
			return stand{x, 1, 1, 0}
		},
		conn.Both: func(x *end) stand {
			x.in(0, 0, 1000, "")
			x.Close()
			x.inFin(0, 0, 1000, "")
			return stand{x, 1, 0, 1}
		},
		conn.Linger: func(x *end) stand {
			x.in(0, 0, 1000, "")
			x.Close()
			x.in(0, 1, 1000, "")
			x.inFin(0, 1, 1000, "")
			return stand{x, 1, 1, 1}
		},
		conn.Left: func(x *end) stand {
			x.in(0, 0, 1000, "")
			x.inFin(0, 0, 1000, "")
			return stand{x, 0, 0, 1}
		},
		conn.LastOut: func(x *end) stand {
			x.in(0, 0, 1000, "")
			x.inFin(0, 0, 1000, "")
			x.Close()
			return stand{x, 1, 0, 1}
		},
		conn.Gone: func(x *end) stand {
			x.in(0, 0, 1000, "")
			x.inFin(0, 0, 1000, "")
			x.Close()
			x.in(1, 1, 1000, "")
			return stand{x, 1, 1, 1}
		},
	}
}

// into leads x into a state; what was sent on the way is not looked at.
func into(x *end, state int) stand {
	x.t.Helper()
	s := ways()[state](x)
	s.Out()
	s.wantState(state)
	return s
}

// in is one that is in a state.
func in(t *testing.T, state int) stand {
	t.Helper()
	return into(plainly(t), state)
}

// eachState does f in each state, from all starts.
func eachState(t *testing.T, f func(x stand, state int)) {
	t.Helper()
	everywhere(t, func(x *end) {
		for state := conn.SynIn; state <= conn.Gone; state++ {
			f(into(made(t, usual(), 100, x.his, x.mine), state), state)
		}
	})
}

func TestTheStatesNumbers(t *testing.T) {
	l := []int{conn.SynIn, conn.Open, conn.FinSent, conn.FinDone, conn.Both, conn.Linger, conn.Left, conn.LastOut, conn.Gone}
	for i, state := range l {
		if state != i+1 {
			t.Errorf("the state number %d is %d", i+1, state)
		}
	}
}

// becomes are the states that others become, by what comes or is called.
func becomes(t *testing.T, name string, f func(x stand), next map[int]int) {
	t.Helper()
	eachState(t, func(x stand, state int) {
		want := state
		if n, ok := next[state]; ok {
			want = n
		}
		f(x)
		if s := x.State(); s != want {
			t.Fatalf("%s in the state %d: it becomes %d, not %d", name, state, s, want)
		}
	})
}

func TestEachStatesWayOn(t *testing.T) {
	becomes(t, "Close", func(x stand) { x.Close() }, map[int]int{conn.Open: conn.FinSent, conn.Left: conn.LastOut})
	becomes(t, "an Ack of all", func(x stand) { x.in(x.want, x.sent, 1000, "") }, map[int]int{
		conn.SynIn: conn.Open, conn.FinSent: conn.FinDone, conn.Both: conn.Linger, conn.LastOut: conn.Gone,
	})
	becomes(t, "an Ack of nothing new", func(x stand) { x.in(x.want, x.acked, 1000, "") }, map[int]int{conn.SynIn: conn.Open})
	becomes(t, "data", func(x stand) { x.in(x.want, x.acked, 1000, "abc") }, map[int]int{conn.SynIn: conn.Open})
	becomes(t, "a Fin", func(x stand) { x.inFin(x.want, x.acked, 1000, "") }, map[int]int{
		conn.SynIn: conn.Left, conn.Open: conn.Left, conn.FinSent: conn.Both, conn.FinDone: conn.Linger,
	})
	becomes(t, "a Fin with the Ack of all", func(x stand) { x.inFin(x.want, x.sent, 1000, "abc") }, map[int]int{
		conn.SynIn: conn.Left, conn.Open: conn.Left, conn.FinSent: conn.Linger, conn.FinDone: conn.Linger,
		conn.Both: conn.Linger, conn.LastOut: conn.Gone,
	})
	all := map[int]int{}
	for state := conn.SynIn; state < conn.Gone; state++ {
		all[state] = conn.Gone
	}
	becomes(t, "Rst", func(x stand) { x.inFlags(api.Rst, x.want, 0) }, all)
	becomes(t, "Abort", func(x stand) { x.Abort() }, all)
	becomes(t, "Rst elsewhere", func(x stand) { x.inFlags(api.Rst, x.want+1, 0) }, nil)
	becomes(t, "Syn", func(x stand) { x.inFlags(api.Syn|api.Ack, x.want, 0) }, nil)
	becomes(t, "Fin without Ack", func(x stand) { x.inFlags(api.Fin, x.want, 0) }, nil)
	becomes(t, "Write", func(x stand) { x.Write("abc") }, nil)
	becomes(t, "Read", func(x stand) { x.Read(9) }, nil)
	becomes(t, "Probe", func(x stand) { x.Probe() }, nil)
}

func TestResetIsToldOfRstAlone(t *testing.T) {
	eachState(t, func(x stand, state int) {
		x.wantReset(false)
		x.inFlags(api.Rst, x.want, 0)
		x.wantReset(state != conn.Gone)
	})
	eachState(t, func(x stand, state int) {
		x.Abort()
		x.wantGone(false)
	})
}

// From beginning to end, closed on either side first, and on both at once.

func TestClosedHereFirst(t *testing.T) {
	everywhere(t, func(x *end) {
		x.in(0, 0, 1000, "")
		x.wantWrite("hello", 5)
		x.Close()
		x.wantOut(x.data(0, 0, 2048, "hello"), x.fin(5, 0, 2048))
		x.wantState(conn.FinSent)
		x.in(0, 6, 1000, "")
		x.wantState(conn.FinDone)
		x.in(0, 6, 1000, "bye")
		x.wantOut(x.ack(6, 3, 2045))
		x.inFin(3, 6, 1000, "")
		x.wantOut(x.ack(6, 4, 2045))
		x.wantState(conn.Linger)
		x.wantRead(9, "bye")
		x.wantReady(0, true)
		x.quiet(4)
		x.Tick()
		x.wantGone(false)
	})
}

func TestClosedThereFirst(t *testing.T) {
	everywhere(t, func(x *end) {
		x.inFin(0, 0, 1000, "bye")
		x.wantOut(x.ack(0, 4, 2045))
		x.wantState(conn.Left)
		x.wantWrite("hello", 5)
		x.wantOut(x.data(0, 4, 2045, "hello"))
		x.Close()
		x.wantOut(x.fin(5, 4, 2045))
		x.wantState(conn.LastOut)
		x.in(4, 5, 1000, "")
		x.wantState(conn.LastOut)
		x.in(4, 6, 1000, "")
		x.wantGone(false)
		x.wantOut()
		x.wantReady(3, false)
		x.wantRead(9, "bye")
		x.wantReady(0, true)
	})
}

func TestClosedOnBothSidesAtOnce(t *testing.T) {
	everywhere(t, func(x *end) {
		x.in(0, 0, 1000, "")
		x.wantWrite("hello", 5)
		x.Close()
		x.Out()
		x.inFin(0, 0, 1000, "bye")
		x.wantOut(x.ack(6, 4, 2045))
		x.wantState(conn.Both)
		x.in(4, 5, 1000, "")
		x.wantState(conn.Both)
		x.in(4, 6, 1000, "")
		x.wantState(conn.Linger)
		x.wantOut()
		x.quiet(4)
		x.Tick()
		x.wantGone(false)
	})
}

// The Fin that waits for room has its states too, and goes when there is some.
func TestClosedWithoutRoom(t *testing.T) {
	everywhere(t, func(x *end) {
		x.in(0, 0, 2, "")
		x.wantWrite("abc", 3)
		x.Close()
		x.wantOut(x.data(0, 0, 2048, "ab"))
		x.inFin(0, 0, 2, "")
		x.wantState(conn.Both)
		x.wantOut(x.ack(2, 1, 2048))
		x.in(1, 2, 1, "")
		x.wantOut(x.data(2, 1, 2048, "c"))
		x.in(1, 3, 0, "")
		x.wantOut()
		x.wantState(conn.Both)
		x.in(1, 3, 1, "")
		x.wantOut(x.fin(3, 1, 2048))
		x.in(1, 4, 0, "")
		x.wantState(conn.Linger)
	})
	everywhere(t, func(x *end) {
		x.inFin(0, 0, 0, "")
		x.wantOut(x.ack(0, 1, 2048))
		x.wantWrite("abc", 3)
		x.Close()
		x.wantState(conn.LastOut)
		x.wantOut()
		x.in(1, 0, 4, "")
		x.wantOut(x.data(0, 1, 2048, "abc"), x.fin(3, 1, 2048))
		x.in(1, 4, 0, "")
		x.wantGone(false)
	})
}

// What is longer than nothing is acknowledged also by one that is Gone by its own Ack.
func TestTheSegmentThatEndsItIsAcknowledged(t *testing.T) {
	x := in(t, conn.LastOut)
	x.in(1, 1, 1000, "abc")
	x.wantGone(false)
	x.wantOut(x.ack(1, 1, 2048))
	x = in(t, conn.LastOut)
	x.in(1, 1, 1000, "")
	x.wantGone(false)
	x.wantOut()
}

// One that is Gone takes nothing, says nothing, and stays so; what was ready can be read.
func TestGoneStaysGone(t *testing.T) {
	x := open(t, 1000)
	x.in(0, 0, 1000, "abc")
	x.wantWrite("hello", 5)
	x.Abort()
	x.wantOut(x.ack(0, 3, 2045), x.data(0, 3, 2045, "hello"), x.rst(5, 3, 2045))
	for range 100 {
		x.Tick()
		x.in(3, 5, 1000, "de")
		x.inFin(3, 5, 1000, "")
		x.inFlags(api.Rst, 3, 5)
		x.inFlags(api.Syn, 3, 5)
		x.in(2000, 5, 1000, "far")
		x.in(3, 700, 1000, "")
		x.wantWrite("a", 0)
		x.Close()
		x.Probe()
		x.Abort()
	}
	x.wantGone(false)
	x.wantOut()
	x.wantRoom(0)
	x.wantReady(3, false)
	x.wantRead(2, "ab")
	x.wantRead(2, "c")
	x.wantReady(0, false) // no Fin came
	x.wantOut()
}
