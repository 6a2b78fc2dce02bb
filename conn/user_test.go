package conn_test

import (
	"math"
	"testing"

	"blockyard/conn"
)

// P15.4, Write

// takes tells whether one in that state takes what is written.
func takes(state int) bool {
	return state == conn.SynIn || state == conn.Open || state == conn.Left
}

func TestWriteInEachState(t *testing.T) {
	eachState(t, func(x stand, state int) {
		if !takes(state) {
			x.wantRoom(0)
			x.wantWrite("abc", 0)
			x.wantWrite("", 0)
			x.wantRoom(0)
			x.wantOut()
			return
		}
		x.wantRoom(2048)
		x.wantWrite("", 0)
		x.wantOut()
		x.wantWrite("abc", 3)
		x.wantRoom(2045)
		if state == conn.SynIn {
			x.wantOut()
		} else {
			x.wantOut(x.data(0, x.want, 2048, "abc"))
		}
	})
}

func TestWriteWhenItIsClosed(t *testing.T) {
	eachState(t, func(x stand, state int) {
		x.Close()
		x.Out()
		x.wantRoom(0)
		x.wantWrite("abc", 0)
		x.wantRoom(0)
		x.wantOut()
	})
	x := plainly(t)
	x.wantWrite("abc", 3)
	x.Close()
	x.wantRoom(0)
	x.wantWrite("def", 0)
	x.in(0, 0, 1000, "")
	x.wantWrite("ghi", 0)
	x.wantOut(x.data(0, 0, 2048, "abc"), x.fin(3, 0, 2048))
}

func TestWriteAsMuchAsThereIsRoomFor(t *testing.T) {
	for _, state := range []int{conn.SynIn, conn.Open, conn.Left} {
		for _, n := range []int{0, 1, 2046, 2047, 2048, 2049, 5000, 1 << 17} {
			x := in(t, state)
			took := min(n, 2048)
			x.wantWrite(text(n), took)
			x.wantRoom(2048 - took)
			x.wantWrite(text(2050), 2048-took)
			x.wantRoom(0)
			x.wantWrite("a", 0)
			x.wantWrite("", 0)
		}
	}
}

// What is acknowledged makes room for as much.
func TestWriteBehindAnAck(t *testing.T) {
	x := open(t, 2048)
	x.wantWrite(text(3000), 2048)
	x.wantOut(x.pieces(0, 2048)...)
	x.in(0, 700, 2048, "")
	x.wantRoom(700)
	x.wantWrite(text(3000)[2048:], 700)
	x.wantOut(x.pieces(2048, 2748)...)
	x.in(0, 2748, 2048, "")
	x.wantRoom(2048)
}

// P15.4, Close

func TestCloseInEachState(t *testing.T) {
	eachState(t, func(x stand, state int) {
		for range 3 {
			x.Close()
		}
		switch state {
		case conn.Open:
			x.wantState(conn.FinSent)
			x.wantOut(x.fin(0, 0, 2048))
		case conn.Left:
			x.wantState(conn.LastOut)
			x.wantOut(x.fin(0, 1, 2048))
		default:
			x.wantState(state)
			x.wantOut()
		}
	})
}

// P15.4, Abort

func TestAbortInEachState(t *testing.T) {
	eachState(t, func(x stand, state int) {
		x.Abort()
		x.wantGone(false)
		if state == conn.Gone {
			x.wantOut()
		} else {
			x.wantOut(x.rst(x.sent, x.want, 2048))
		}
		x.Abort()
		x.wantOut()
	})
}

// Its Seq is top, not nxt.
func TestAbortTellsTop(t *testing.T) {
	x := open(t, 1000)
	x.wantWrite(text(300), 300)
	x.Close()
	x.in(0, 0, 1000, text(40))
	x.Out()
	x.Tick()
	x.Tick()
	x.wantOut(x.data(0, 40, 2008, text(100)))
	x.Abort()
	x.wantOut(x.rst(301, 40, 2008))
	x.wantRead(99, text(40))
	x.wantOut()
}

// P15.4, Probe

func TestProbeInEachState(t *testing.T) {
	eachState(t, func(x stand, state int) {
		x.Probe()
		x.wantState(state)
		switch state {
		case conn.SynIn, conn.Linger, conn.Gone:
			x.wantOut()
		default:
			x.wantOut(x.ack(x.acked-1, x.want, 2048))
		}
	})
}

// It goes out whatever else does, says what is wanted, and changes nothing.
func TestProbeBesideOthers(t *testing.T) {
	x := slow(t, 1000)
	x.in(0, 0, 1000, "abc")
	x.wantWrite(text(30), 30)
	x.Out()
	x.in(3, 10, 1000, "")
	x.Probe()
	x.Probe()
	x.wantOut(x.ack(9, 3, 2045), x.ack(9, 3, 2045))
	x.wantState(conn.Open)
	x.wantRoom(2048 - 20)
	x.wantReady(3, false)
	x.quiet(1)
	x.Probe()
	x.wantOut(x.ack(9, 3, 2045))
	x.inTicks(11, x.data(10, 3, 2045, text(30)[10:]))
}

// The other end, as it should be, answers a probe: it lies ahead of what that waits for.
func TestAProbeIsAnswered(t *testing.T) {
	x, y := in(t, conn.Open), in(t, conn.Open)
	x.Probe()
	for _, s := range x.Out() {
		y.In(y.seg(s.Flags, int(s.Seq-x.mine), int(s.Ack-x.his), s.Window, s.Data))
	}
	y.wantOut(y.ack(0, 0, 2048))
	x.wantState(conn.Open)
}

// P15.5, Read

func TestReadPieces(t *testing.T) {
	everywhere(t, func(x *end) {
		x.in(0, 0, 1000, text(20))
		x.Out()
		for _, n := range []int{0, -1, math.MinInt} {
			x.wantRead(n, "")
		}
		x.wantRead(1, text(1))
		x.wantRead(7, text(8)[1:])
		x.wantReady(12, false)
		x.wantRead(math.MaxInt, text(20)[8:])
		x.wantRead(math.MaxInt, "")
		x.wantOut()
	})
}

// tells is one whose told Window is so much: as many bytes are ready that no more have room.
func tells(t *testing.T, window int) *end {
	t.Helper()
	x := open(t, 1000)
	x.in(0, 0, 1000, text(2048-window))
	x.wantOut(x.ack(0, 2048-window, window))
	return x
}

// It is said that there is room again for a whole segment, if it was said last that there was not.
func TestReadTellsTheWindow(t *testing.T) {
	x := tells(t, 535)
	x.wantRead(0, "")
	x.wantOut()
	x.wantRead(1, text(1))
	x.wantOut(x.ack(0, 1513, 536))
	x.wantRead(1, text(2)[1:])
	x.wantRead(math.MaxInt, text(1513)[2:])
	x.wantOut()

	x = tells(t, 536)
	x.wantRead(1, text(1))
	x.wantRead(math.MaxInt, text(1512)[1:])
	x.wantOut()

	x = tells(t, 0)
	x.wantRead(535, text(535))
	x.wantOut()
	x.wantRead(0, "")
	x.wantRead(-1, "")
	x.wantOut()
	x.wantRead(1, text(536)[535:])
	x.wantOut(x.ack(0, 2048, 536))
	x.wantRead(math.MaxInt, text(2048)[536:])
	x.wantOut()

	x = tells(t, 1)
	x.wantRead(math.MaxInt, text(2047))
	x.wantOut(x.ack(0, 2047, 2048))
}

// What was sent meanwhile told its Window too.
func TestReadKnowsWhatWasToldLast(t *testing.T) {
	x := tells(t, 0)
	x.wantRead(535, text(535))
	x.wantWrite("a", 1)
	x.wantOut(x.data(0, 2048, 535, "a"))
	x.wantRead(1, text(536)[535:])
	x.wantOut(x.ack(1, 2048, 536))

	x = tells(t, 535)
	x.in(1513, 0, 1000, text(100))
	x.wantOut(x.ack(0, 1613, 435))
	x.wantRead(100, text(100))
	x.wantOut()
	x.wantRead(1, text(101)[100:])
	x.wantOut(x.ack(0, 1613, 536))

	x = tells(t, 536) // what is told now is less than it was
	x.in(1512, 0, 1000, "a")
	x.wantOut(x.ack(0, 1513, 535))
	x.wantRead(1, text(1))
	x.wantOut(x.ack(0, 1513, 536))
}

// It is said in Open, FinSent and FinDone alone: else nothing more comes.
func TestReadTellsTheWindowInSomeStates(t *testing.T) {
	for state := conn.Open; state <= conn.Gone; state++ {
		x := open(t, 1000)
		x.in(0, 0, 1000, text(2048))
		s := stand{x, 0, 0, 2048}
		switch state {
		case conn.FinSent, conn.FinDone, conn.Both, conn.Linger:
			x.Close()
			s.sent = 1
		}
		switch state {
		case conn.FinDone:
			x.in(2048, 1, 1000, "")
		case conn.Both, conn.Left, conn.LastOut:
			x.inFin(2048, 0, 1000, "")
		case conn.Linger:
			x.inFin(2048, 1, 1000, "")
		case conn.Gone:
			x.Abort()
		}
		if state == conn.LastOut {
			x.Close()
		}
		x.wantState(state)
		x.Out()
		x.wantRead(2048, text(2048))
		switch state {
		case conn.Open, conn.FinSent, conn.FinDone:
			x.wantOut(x.ack(s.sent, 2048, 2048))
			x.wantReady(0, false)
		case conn.Gone:
			x.wantOut()
			x.wantReady(0, false)
		default:
			x.wantOut()
			x.wantReady(0, true)
		}
	}
}

// P15.5, Eof and Room

func TestEofIsToldWhenAllIsRead(t *testing.T) {
	x := open(t, 1000)
	x.wantReady(0, false)
	x.inFin(0, 0, 1000, "abc")
	x.wantReady(3, false)
	x.wantRead(2, "ab")
	x.wantReady(1, false)
	x.wantRead(2, "c")
	x.wantReady(0, true)
	x.Abort()
	x.wantReady(0, true)
}

func TestRoomBesideWhatIsWritten(t *testing.T) {
	x := open(t, 10)
	for n := 0; n < 2048; n += 64 {
		x.wantRoom(2048 - n)
		x.wantWrite(text(64), 64)
	}
	x.wantRoom(0)
	x.in(0, 4, 10, "")
	x.wantRoom(4)
	x.inFin(0, 9, 10, "")
	x.wantState(conn.Left)
	x.wantRoom(9)
	x.Close()
	x.wantRoom(0)
	x.in(1, 15, 10, "")
	x.wantRoom(0)
}
