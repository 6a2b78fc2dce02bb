package conn_test

import (
	"math"
	"slices"
	"testing"

	"blockyard/api"
	"blockyard/conn"
)

// P15.3

// The waits are 10, 20, 40 and 60 ticks, which is the most.
func TestTheTimerInSynIn(t *testing.T) {
	everywhere(t, func(x *end) {
		x.inTicks(10, x.syn())
		x.inTicks(20, x.syn())
		x.inTicks(40, x.syn())
		x.wantState(conn.SynIn)
		x.quiet(59)
		x.Tick()
		x.wantGone(true)
		x.wantOut()
	})
}

// Nothing that comes and does not acknowledge it lets the timer be, or run anew.
func TestTheTimerInSynInGoesOn(t *testing.T) {
	x := plainly(t)
	x.wantWrite("abc", 3)
	x.quiet(4)
	x.in(0, 3, 1000, "")
	x.inFlags(api.Syn, 0, 0)
	x.inFlags(api.Psh, 0, 0)
	x.in(-1, 0, 1000, "")
	x.Out()
	x.inTicks(6, x.syn())
	x.quiet(4)
	x.Close()
	x.inTicks(16, x.syn())
	x.inTicks(40, x.syn())
	x.quiet(59)
	x.in(0, 0, 1000, "")
	x.wantState(conn.FinSent)
	x.wantOut(x.data(0, 0, 2048, "abc"), x.fin(3, 0, 2048))
}

// Behind a Syn that was sent again nothing is measured: the wait stays as long, and tries count from one on.
func TestOpenBehindASynThatWasSentAgain(t *testing.T) {
	x := plainly(t)
	x.inTicks(10, x.syn())
	x.inTicks(20, x.syn())
	x.in(0, 0, 1000, "")
	x.wantWrite("a", 1)
	x.wantOut(x.data(0, 0, 2048, "a"))
	x.inTicks(40, x.data(0, 0, 2048, "a"))
	x.inTicks(60, x.data(0, 0, 2048, "a"))
	x.inTicks(60, x.data(0, 0, 2048, "a"))
	x.quiet(59)
	x.Tick()
	x.wantGone(true)
	x.wantOut(x.rst(1, 0, 2048))
}

// In ticks 12, 24, 48 and 60 it waits for an ack of what is out, then it gives up.
func TestTheTimerWithSomethingOut(t *testing.T) {
	everywhere(t, func(x *end) {
		x.quiet(4)
		x.in(0, 0, 1000, "")
		x.wantWrite(text(250), 250)
		x.Out()
		first := x.data(0, 0, 2048, text(100))
		x.inTicks(12, first)
		x.inTicks(24, first)
		x.inTicks(48, first)
		x.wantReset(false)
		x.quiet(59)
		x.Tick()
		x.wantGone(true)
		x.wantOut(x.rst(250, 0, 2048))
		x.quiet(500)
	})
}

func TestAsManyTriesAsAreAsked(t *testing.T) {
	for _, tries := range []int{1, 2, 5, 99, 100} {
		o := api.Tcp{First: 1, Least: 1, Most: 2, Tries: tries, Linger: 1}
		x := made(t, o, 100, 1, 1)
		x.inTicks(1, x.syn())
		for range tries - 1 {
			x.inTicks(2, x.syn())
		}
		x.quiet(1)
		x.Tick()
		x.wantGone(true)
		x.wantOut()

		x = made(t, o, 100, 1, 1)
		x.in(0, 0, 1000, "")
		x.wantWrite("a", 1)
		x.Out()
		x.inTicks(1, x.data(0, 0, 2048, "a"))
		for range tries - 1 {
			x.inTicks(2, x.data(0, 0, 2048, "a"))
		}
		x.quiet(1)
		x.Tick()
		x.wantGone(true)
		x.wantOut(x.rst(1, 0, 2048))
	}
}

// What lies ahead of what was not acknowledged is not sent again; what is, is one segment, of whatever pieces it was.
func TestWhatIsSentAgain(t *testing.T) {
	x := slow(t, 1000)
	x.wantWrite("abc", 3)
	x.wantWrite("defg", 4)
	x.wantWrite("h", 1)
	x.Out()
	x.inTicks(12, x.data(0, 0, 2048, "abcdefgh"))
	x.in(0, 5, 1000, "")
	x.inTicks(24, x.data(5, 0, 2048, "fgh"))
	x.Close()
	x.wantOut(x.fin(8, 0, 2048))
	x.inTicks(48, x.data(5, 0, 2048, "fgh"))
	x.in(0, 8, 1000, "")
	x.wantOut(x.fin(8, 0, 2048))
	x.inTicks(60, x.fin(8, 0, 2048))
}

// At most as much as the window is now, whatever was sent ahead of that.
func TestWhatIsSentAgainHasRoom(t *testing.T) {
	for window, n := range map[int]int{1: 1, 2: 2, 50: 50, 99: 99, 100: 100, 101: 100, 250: 100, 65535: 100} {
		x := slow(t, 250)
		x.wantWrite(text(250), 250)
		x.Out()
		x.in(1, 0, window, "")
		x.Out()
		x.inTicks(12, x.data(0, 0, 2048, text(n)))
	}
}

// While the window is shut it asks with a byte, as long as it takes.
func TestWhatIsSentAgainAtAWindowOfNought(t *testing.T) {
	x := slow(t, 250)
	x.wantWrite(text(250), 250)
	x.Out()
	x.in(0, 0, 0, "")
	for i := range 300 {
		x.inTicks(min(12<<min(i, 9), 60), x.data(0, 0, 2048, text(1)))
	}
	x.in(0, 1, 0, "")
	x.inTicks(60, x.data(1, 0, 2048, text(2)[1:]))
	x.in(0, 2, 1000, "")
	x.wantOut(x.data(2, 0, 2048, text(102)[2:]), x.data(102, 0, 2048, text(202)[102:]), x.data(202, 0, 2048, text(250)[202:]))
}

// Tries at an open window count, those at a shut one neither add to them nor take them away.
func TestTriesAtAWindowThatShuts(t *testing.T) {
	x := slow(t, 250)
	x.wantWrite("abc", 3)
	x.Out()
	x.inTicks(12, x.data(0, 0, 2048, "abc"))
	x.inTicks(24, x.data(0, 0, 2048, "abc"))
	x.in(0, 0, 0, "")
	x.inTicks(48, x.data(0, 0, 2048, "a"))
	for range 20 {
		x.inTicks(60, x.data(0, 0, 2048, "a"))
	}
	x.in(0, 0, 2, "")
	x.wantOut(x.data(1, 0, 2048, "b"))
	x.inTicks(60, x.data(0, 0, 2048, "ab"))
	x.quiet(59)
	x.Tick()
	x.wantGone(true)
	x.wantOut(x.rst(3, 0, 2048))
}

// The Fin alone is sent again, at any window; it is given up too, unless that is 0.
func TestTheTimerWithTheFinAlone(t *testing.T) {
	everywhere(t, func(x *end) {
		x.quiet(4)
		x.in(0, 0, 1000, "")
		x.Close()
		x.wantOut(x.fin(0, 0, 2048))
		x.inTicks(12, x.fin(0, 0, 2048))
		x.inTicks(24, x.fin(0, 0, 2048))
		x.inTicks(48, x.fin(0, 0, 2048))
		x.quiet(59)
		x.Tick()
		x.wantGone(true)
		x.wantOut(x.rst(1, 0, 2048))
	})
	x := slow(t, 1)
	x.Close()
	x.Out()
	x.in(0, 0, 0, "")
	for i := range 100 {
		x.inTicks(min(12<<min(i, 9), 60), x.fin(0, 0, 2048))
	}
	x.wantState(conn.FinSent)
}

func TestTheTimerWithTheFinBehindData(t *testing.T) {
	x := slow(t, 1000)
	x.wantWrite("abc", 3)
	x.Close()
	x.Out()
	x.inTicks(12, x.data(0, 0, 2048, "abc"))
	x.inTicks(24, x.data(0, 0, 2048, "abc"))
	x.in(0, 2, 1000, "")
	x.wantOut(x.fin(3, 0, 2048))
	x.inTicks(48, x.data(2, 0, 2048, "c"))
	x.in(0, 3, 0, "")
	x.inTicks(60, x.fin(3, 0, 2048))
}

// All is acknowledged, and the window is shut: it asks, with the number ahead of una, as long as it takes, and sends nothing of what waits.
func TestTheTimerWithAllAcknowledged(t *testing.T) {
	everywhere(t, func(x *end) {
		x.quiet(4)
		x.in(0, 0, 0, "")
		x.wantWrite(text(250), 250)
		for i := range 100 {
			x.inTicks(min(12<<min(i, 9), 60), x.ack(-1, 0, 2048))
		}
		x.wantState(conn.Open)
		x.in(0, 0, 10, "")
		x.wantOut(x.data(0, 0, 2048, text(10)))
		x.in(0, 10, 0, "")
		x.wantOut()
		x.quiet(1) // the ack was of 0 ticks: x is -4, d 8 + 4 - 2, a 28
		x.inTicks(12, x.ack(9, 0, 2048))
	})
}

// Asking does not count as a try.
func TestAskingIsNoTry(t *testing.T) {
	x := slow(t, 0)
	x.wantWrite("abc", 3)
	for i := range 20 {
		x.inTicks(min(12<<min(i, 9), 60), x.ack(-1, 0, 2048))
	}
	x.in(0, 0, 3, "")
	x.wantOut(x.data(0, 0, 2048, "abc"))
	for range 3 {
		x.inTicks(60, x.data(0, 0, 2048, "abc"))
	}
	x.quiet(59)
	x.Tick()
	x.wantGone(true)
}

// In each state in which something may be out the timer does its work, and tells what is wanted.
func TestTheTimerInEachState(t *testing.T) {
	for _, state := range []int{conn.FinSent, conn.Both, conn.LastOut} {
		x := in(t, state)
		for _, ticks := range []int{2, 4, 8} {
			x.inTicks(ticks, x.fin(0, x.want, 2048))
		}
		x.quiet(15)
		x.Tick()
		x.wantGone(true)
		x.wantOut(x.rst(1, x.want, 2048))
	}
	for _, state := range []int{conn.Open, conn.FinDone, conn.Left} {
		in(t, state).quiet(1000)
	}
	x := in(t, conn.Left)
	x.wantWrite("a", 1)
	x.wantOut(x.data(0, 1, 2048, "a"))
	x.inTicks(2, x.data(0, 1, 2048, "a"))
}

// The longest waits.
func TestTheLongestWaits(t *testing.T) {
	const longest = 1 << 20
	x := made(t, api.Tcp{First: longest, Least: longest, Most: longest, Tries: 1, Linger: longest}, 100, 1, 1)
	x.inTicks(longest, x.syn())
	x.in(0, 0, 1000, "")
	x.Close()
	x.wantOut(x.fin(0, 0, 2048))
	x.inTicks(longest, x.fin(0, 0, 2048))
	x.inFin(0, 1, 1000, "")
	x.Out()
	x.quiet(longest - 1)
	x.Tick()
	x.wantGone(false)
}

// R1: a window below 0, which no segment's bytes tell, is none of 0, and takes nothing.
func TestAWindowBelowNought(t *testing.T) {
	for _, window := range []int{-1, -100, -65536, math.MinInt, math.MinInt + 1} {
		x := slow(t, window)
		x.wantWrite("abc", 3)
		x.wantOut()
		x.inTicks(12, x.ack(-1, 0, 2048))
		x.in(0, 0, 2, "")
		if l := x.Out(); !slices.Equal(l, []api.Seg{x.data(0, 0, 2048, "ab")}) {
			t.Fatal(window, l)
		}
		x.in(0, 0, window, "")
		x.Close()
		x.quiet(23)
		for range 500 {
			x.Tick()
		}
		x.wantGone(true)
	}
}
