package conn_test

import (
	"testing"

	"blockyard/api"
	"blockyard/conn"
)

// Flush

// pieces are the segments with data that go from a number up to another one, each with at most 100 bytes of the text.
func (x *end) pieces(from, to int) []api.Seg {
	var l []api.Seg
	for at := from; at < to; at += 100 {
		l = append(l, x.data(at, 0, 2048, text(min(to, at+100))[at:]))
	}
	return l
}

func TestRoomForSomeOfIt(t *testing.T) {
	for _, window := range []int{0, 1, 2, 50, 99, 100, 101, 150, 199, 200, 201, 299, 300, 301, 1000, 65535} {
		everywhere(t, func(x *end) {
			x.in(0, 0, window, "")
			x.wantWrite(text(300), 300)
			x.wantOut(x.pieces(0, min(window, 300))...)
			x.wantRoom(2048 - 300)
		})
	}
}

func TestSomeToBeSent(t *testing.T) {
	for _, n := range []int{0, 1, 99, 100, 101, 200, 201, 2047, 2048} {
		everywhere(t, func(x *end) {
			x.in(0, 0, 65535, "")
			x.wantWrite(text(n), n)
			x.wantOut(x.pieces(0, n)...)
			x.Close()
			x.wantOut(x.fin(n, 0, 2048))
		})
	}
}

// What is out takes of the room, and is not sent again.
func TestRoomBehindWhatIsOut(t *testing.T) {
	everywhere(t, func(x *end) {
		x.in(0, 0, 250, "")
		at := 0
		for i := range 30 {
			x.wantWrite(text(at + i)[at:], i)
			x.wantOut(x.pieces(min(at, 250), min(at+i, 250))...)
			at += i
		}
		x.in(0, 100, 250, "")
		x.wantOut(x.pieces(250, 350)...)
		x.in(0, 100, 1000, "")
		x.wantOut(x.pieces(350, at)...)
	})
}

// The Fin needs room for its number, as a byte does, and has a segment of its own.
func TestRoomForTheFin(t *testing.T) {
	for _, n := range []int{0, 1, 99, 100, 150} {
		for _, more := range []int{-2, -1, 0, 1, 2, 1000} {
			window := n + more
			if window < 0 {
				continue
			}
			everywhere(t, func(x *end) {
				x.in(0, 0, window, "")
				x.wantWrite(text(n), n)
				x.wantOut(x.pieces(0, min(n, window))...)
				x.Close()
				if more < 1 {
					x.wantOut()
				} else {
					x.wantOut(x.fin(n, 0, 2048))
				}
				x.wantState(conn.FinSent)
				x.in(0, 0, n+1, "")
				if more < 1 {
					x.wantOut(append(x.pieces(min(n, window), n), x.fin(n, 0, 2048))...)
				} else {
					x.wantOut()
				}
			})
		}
	}
}

// What is out may reach beyond a window that became less: then there is room for nothing, not for the Fin either.
func TestRoomBehindAWindowThatBecameLess(t *testing.T) {
	everywhere(t, func(x *end) {
		x.in(0, 0, 100, "")
		x.wantWrite(text(100), 100)
		x.wantOut(x.pieces(0, 100)...)
		x.in(0, 0, 40, "")
		x.Close()
		x.wantOut()
		x.in(0, 59, 40, "")
		x.in(0, 59, 41, "")
		x.wantOut()
		x.in(0, 59, 42, "")
		x.wantOut(x.fin(100, 0, 2048))
	})
	everywhere(t, func(x *end) {
		x.in(0, 0, 100, "")
		x.wantWrite(text(150), 150)
		x.wantOut(x.pieces(0, 100)...)
		x.in(0, 0, 40, "")
		x.in(0, 60, 40, "")
		x.wantOut()
		x.in(0, 61, 40, "")
		x.wantOut(x.data(100, 0, 2048, text(101)[100:]))
	})
}

// All states but SynIn send what is written and not sent yet; SynIn waits.
func TestWhoFlushes(t *testing.T) {
	everywhere(t, func(x *end) {
		x.wantWrite("abc", 3)
		x.Close()
		x.wantOut()
		x.in(0, 0, 0, "")
		x.wantState(conn.FinSent)
		x.in(0, 0, 1, "")
		x.wantOut(x.data(0, 0, 2048, "a"))
		x.inFin(0, 0, 2, "")
		x.wantState(conn.Both)
		x.wantOut(x.data(1, 1, 2048, "b"))
		x.in(1, 0, 3, "")
		x.wantOut(x.data(2, 1, 2048, "c"))
		x.in(1, 0, 4, "")
		x.wantOut(x.fin(3, 1, 2048))
	})
	everywhere(t, func(x *end) {
		x.in(0, 0, 0, "")
		x.wantWrite("abc", 3)
		x.inFin(0, 0, 1, "")
		x.wantState(conn.Left)
		x.wantOut(x.data(0, 1, 2048, "a"))
		x.in(1, 0, 2, "")
		x.wantOut(x.data(1, 1, 2048, "b"))
		x.Close()
		x.wantState(conn.LastOut)
		x.wantOut()
		x.in(1, 1, 2, "")
		x.wantOut(x.data(2, 1, 2048, "c"))
		x.in(1, 2, 2, "")
		x.wantOut(x.fin(3, 1, 2048))
	})
}

// The timer runs from the first that is out.
func TestWhatIsSentLetsTheTimerRun(t *testing.T) {
	x := slow(t, 1000)
	x.wantWrite("ab", 2)
	x.pass(5)
	x.wantWrite("cd", 2)
	x.pass(5)
	x.Close()
	x.wantOut(x.fin(4, 0, 2048))
	x.inTicks(2, x.data(0, 0, 2048, "abcd"))
}

func TestTheFinLetsTheTimerRun(t *testing.T) {
	x := slow(t, 1000)
	x.quiet(100)
	x.Close()
	x.wantOut(x.fin(0, 0, 2048))
	x.inTicks(12, x.fin(0, 0, 2048))
}

// Something waits, and nothing is out that is to be acknowledged: the timer runs, to ask.
func TestWhatWaitsLetsTheTimerRun(t *testing.T) {
	x := slow(t, 0)
	x.quiet(100)
	x.wantWrite("", 0)
	x.quiet(100)
	x.wantWrite("a", 1)
	x.quiet(5)
	x.wantWrite("b", 1) // it runs already
	x.inTicks(7, x.ack(-1, 0, 2048))

	x = slow(t, 0)
	x.Close()
	x.inTicks(12, x.ack(-1, 0, 2048))
}

// A Write sends what is next: also what was sent long ago, of which the timer sent but the beginning again.
func TestAWriteBehindTheTimer(t *testing.T) {
	x := slow(t, 1000)
	x.wantWrite(text(250), 250)
	x.Out()
	x.inTicks(12, x.data(0, 0, 2048, text(100)))
	x.wantWrite("", 0)
	x.wantOut(x.pieces(100, 250)...)
	x.wantWrite("", 0)
	x.wantOut()
	x.inTicks(24, x.data(0, 0, 2048, text(100)))
	x.Close()
	x.wantOut(append(x.pieces(100, 250), x.fin(250, 0, 2048))...)
	x.inTicks(48, x.data(0, 0, 2048, text(100)))
	x.in(0, 0, 120, "") // what has no room now is not sent
	x.wantOut(x.pieces(100, 120)...)
	x.in(0, 100, 1000, "")
	x.wantOut(append(x.pieces(120, 220), x.data(220, 0, 2048, text(250)[220:]), x.fin(250, 0, 2048))...)
}
