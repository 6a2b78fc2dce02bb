package conn_test

import (
	"testing"

	"blockyard/api"
	"blockyard/conn"
)

// P15.2, what is acknowledged

func TestAnAckOfAPart(t *testing.T) {
	everywhere(t, func(x *end) {
		x.in(0, 0, 1000, "")
		x.wantWrite(text(250), 250)
		x.wantOut(x.data(0, 0, 2048, text(100)), x.data(100, 0, 2048, text(200)[100:]), x.data(200, 0, 2048, text(250)[200:]))
		x.in(0, 1, 1000, "")
		x.wantOut()
		x.wantRoom(2048 - 249)
		x.in(0, 130, 1000, "")
		x.wantRoom(2048 - 120)
		x.inTicks(2, x.data(130, 0, 2048, text(230)[130:]))
	})
}

func TestAnAckOfAll(t *testing.T) {
	everywhere(t, func(x *end) {
		x.in(0, 0, 1000, "")
		x.wantWrite(text(250), 250)
		x.Out()
		x.in(0, 250, 1000, "")
		x.wantRoom(2048)
		x.quiet(300)
		x.wantState(conn.Open)
	})
}

func TestAnAckOfTheFin(t *testing.T) {
	everywhere(t, func(x *end) {
		x.in(0, 0, 1000, "")
		x.wantWrite("abc", 3)
		x.Close()
		x.wantOut(x.data(0, 0, 2048, "abc"), x.fin(3, 0, 2048))
		x.in(0, 3, 1000, "") // all but the Fin
		x.wantState(conn.FinSent)
		x.inTicks(2, x.fin(3, 0, 2048))
		x.in(0, 4, 1000, "")
		x.wantState(conn.FinDone)
		x.quiet(300)
	})
	everywhere(t, func(x *end) { // both at once
		x.in(0, 0, 1000, "")
		x.wantWrite("abc", 3)
		x.Close()
		x.Out()
		x.in(0, 4, 1000, "")
		x.wantState(conn.FinDone)
		x.quiet(300)
		x.in(0, 4, 1000, "hi")
		x.wantOut(x.ack(4, 2, 2046))
	})
}

// What is acknowledged is not sent again: the next one to be sent is the first that was not.
func TestAnAckBehindNxt(t *testing.T) {
	for ack, want := range map[int]int{1: 100, 50: 100, 99: 100, 100: 100, 101: 101, 150: 150, 299: 299} {
		everywhere(t, func(x *end) {
			x.in(0, 0, 1000, "")
			x.wantWrite(text(300), 300)
			x.Out()
			x.inTicks(2, x.data(0, 0, 2048, text(100))) // nxt is 100 now
			x.in(0, ack, 1000, "")
			var l []api.Seg
			for at := want; at < 300; at += 100 {
				l = append(l, x.data(at, 0, 2048, text(min(300, at+100))[at:]))
			}
			x.wantOut(l...)
		})
	}
	everywhere(t, func(x *end) { // all of it
		x.in(0, 0, 1000, "")
		x.wantWrite(text(300), 300)
		x.Out()
		x.inTicks(2, x.data(0, 0, 2048, text(100)))
		x.in(0, 300, 1000, "")
		x.quiet(300)
		x.wantWrite("a", 1)
		x.wantOut(x.data(300, 0, 2048, "a"))
	})
}

func TestAnAckBehindNxtOfTheFin(t *testing.T) {
	everywhere(t, func(x *end) {
		x.in(0, 0, 1000, "")
		x.wantWrite(text(150), 150)
		x.Close()
		x.Out()
		x.inTicks(2, x.data(0, 0, 2048, text(100)))
		x.in(0, 150, 1000, "")
		x.wantOut(x.fin(150, 0, 2048))
		x.inTicks(4, x.fin(150, 0, 2048))
		x.in(0, 151, 1000, "")
		x.wantState(conn.FinDone)
		x.quiet(300)
	})
}

// Each ack of something new lets the timer run anew, from then on.
func TestAnAckLetsTheTimerRunAnew(t *testing.T) {
	x := slow(t, 1000)
	x.wantWrite(text(100), 100)
	x.Out()
	for i := range 20 {
		x.quiet(11)
		x.in(0, i+1, 1000, "")
		x.wantOut()
	}
	x.quiet(5)
	x.in(0, 20, 1000, "") // nothing new: it goes on as it was
	x.in(0, 3, 1000, "")
	x.inTicks(7, x.data(20, 0, 2048, text(100)[20:]))
}

// As soon as something was acknowledged, it may run out Tries times again.
func TestAnAckLetsItTryAnew(t *testing.T) {
	x := slow(t, 1000)
	x.wantWrite(text(3), 3)
	x.wantOut(x.data(0, 0, 2048, text(3)))
	x.inTicks(12, x.data(0, 0, 2048, text(3)))
	x.inTicks(24, x.data(0, 0, 2048, text(3)))
	x.inTicks(48, x.data(0, 0, 2048, text(3)))
	x.quiet(59)
	x.in(0, 0, 1000, "") // nothing new
	x.in(0, 1, 1000, "")
	x.wantOut()
	for range 3 {
		x.inTicks(60, x.data(1, 0, 2048, text(3)[1:]))
	}
	x.quiet(59)
	x.Tick()
	x.wantGone(true)
	x.wantOut(x.rst(3, 0, 2048))
}

// P15.2, measures

// wantWait holds that a byte that is written now is sent again behind n ticks. Up to there all was acknowledged.
func (x *end) wantWait(seq, n int) {
	x.t.Helper()
	x.wantWrite("z", 1)
	x.wantOut(x.data(seq, 0, 2048, "z"))
	x.inTicks(n, x.data(seq, 0, 2048, "z"))
}

// A measure of 5 ticks, behind one of 4, makes a wait of 11 out of one of 12.
func TestAMeasureEndsAtAnAck(t *testing.T) {
	for written, wait := range map[int]int{100: 11, 101: 11, 150: 11, 250: 11} { // it ends at 100: at the ack and below it
		x := slow(t, 1000)
		x.wantWrite(text(written), written)
		x.Out()
		x.quiet(5)
		x.in(0, written, 1000, "")
		x.wantWait(written, wait)
	}
}

func TestAMeasureDoesNotEndBeyondAnAck(t *testing.T) {
	for _, ack := range []int{1, 50, 99} {
		x := slow(t, 1000)
		x.wantWrite(text(100), 100)
		x.Out()
		x.quiet(5)
		x.in(0, ack, 1000, "")
		x.inTicks(12, x.data(ack, 0, 2048, text(100)[ack:]))
	}
	for _, ack := range []int{1, 50, 99} { // it goes on, and ends at the next one
		x := slow(t, 1000)
		x.wantWrite(text(100), 100)
		x.Out()
		x.quiet(3)
		x.in(0, ack, 1000, "")
		x.quiet(2)
		x.in(0, 100, 1000, "")
		x.wantWait(100, 11)
	}
}

// As long as one is made no other one begins.
func TestOneMeasureAtATime(t *testing.T) {
	x := slow(t, 1000)
	x.wantWrite(text(100), 100)
	x.pass(3)
	x.wantWrite("b", 1)
	x.pass(2)
	x.in(0, 101, 1000, "")
	x.wantWait(101, 11)

	x = slow(t, 1000)
	x.wantWrite(text(100), 100)
	x.pass(3)
	x.wantWrite("b", 1)
	x.pass(2)
	x.in(0, 100, 1000, "") // the one of the first ends
	x.quiet(9)
	x.in(0, 101, 1000, "") // the other one has none
	x.wantWait(101, 11)
}

// pass lets ticks go by, whatever was sent ahead of them.
func (x *end) pass(n int) {
	x.t.Helper()
	x.Out()
	x.quiet(n)
}

// A measure is over when it ended: a later ack measures nothing.
func TestAMeasureIsMadeOnce(t *testing.T) {
	x := slow(t, 1000)
	x.wantWrite(text(200), 200)
	x.pass(5)
	x.in(0, 100, 1000, "")
	x.quiet(7)
	x.in(0, 150, 1000, "")
	x.quiet(7)
	x.in(0, 200, 1000, "")
	x.wantWait(200, 11)
}

// What is sent in one go is measured at its first segment.
func TestAMeasureBeginsAtTheFirstSegment(t *testing.T) {
	x := slow(t, 1000)
	x.wantWrite(text(300), 300)
	x.pass(5)
	x.in(0, 100, 1000, "")
	x.quiet(1)
	x.in(0, 300, 1000, "")
	x.wantWait(300, 11)
}

// The next one begins at nought ticks.
func TestMeasuresOneBehindTheOther(t *testing.T) {
	x := slow(t, 1000)
	x.wantWrite("a", 1)
	x.pass(5)
	x.in(0, 1, 1000, "")
	x.quiet(40)
	x.wantWrite("b", 1)
	x.pass(1) // x is 1 - 4, d 7 + 3 - 1, a 30
	x.in(0, 2, 1000, "")
	x.wantWait(2, 3+9)
}

// Of what was sent twice none can say which was answered: it is not measured, and the longer wait stays.
func TestWhatWasSentAgainIsNotMeasured(t *testing.T) {
	x := slow(t, 1000)
	x.wantWrite("a", 1)
	x.Out()
	x.inTicks(12, x.data(0, 0, 2048, "a"))
	x.quiet(5)
	x.in(0, 1, 1000, "")
	x.wantWait(1, 24)
	x.in(0, 2, 1000, "")
	x.wantWait(2, 48)

	x = slow(t, 1000)
	x.wantWrite(text(300), 300)
	x.Out()
	x.inTicks(12, x.data(0, 0, 2048, text(100)))
	x.in(0, 100, 1000, "")
	x.wantOut(x.data(100, 0, 2048, text(200)[100:]), x.data(200, 0, 2048, text(300)[200:]))
	x.quiet(5)
	x.in(0, 300, 1000, "")
	x.wantWait(300, 24)
}

// But what goes beyond all that was sent is, and its wait follows from what was measured.
func TestWhatIsNewBehindWhatWasSentAgainIsMeasured(t *testing.T) {
	x := slow(t, 1000)
	x.wantWrite("a", 1)
	x.Out()
	x.inTicks(12, x.data(0, 0, 2048, "a"))
	x.wantWrite("b", 1)
	x.wantOut(x.data(1, 0, 2048, "b"))
	x.quiet(5)
	x.in(0, 2, 1000, "")
	x.wantWait(2, 11)

	x = slow(t, 250)
	x.wantWrite(text(300), 300)
	x.Out()
	x.inTicks(12, x.data(0, 0, 2048, text(100)))
	x.in(0, 100, 250, "")
	x.wantOut(x.data(100, 0, 2048, text(200)[100:]), x.data(200, 0, 2048, text(300)[200:])) // the last one is in part new
	x.quiet(5)
	x.in(0, 299, 250, "")
	x.quiet(2)
	x.in(0, 300, 250, "")      // of 7 ticks: x is 3, d 8 + 3 - 2, a 35
	x.wantWait(300, 4+(8+3-2)) // 35 / 8 is 4
}

// P15.2, the window

func TestTheWindowOfANewerSegment(t *testing.T) {
	everywhere(t, func(x *end) {
		x.in(5, 0, 10, "")
		x.wantWrite(text(90), 90)
		x.wantOut(x.data(0, 0, 2048, text(10)))
		x.in(4, 0, 90, "") // of an elder one, its Seq is ahead
		x.wantOut()
		x.in(5, 0, 20, "") // the same Seq, and the same Ack
		x.wantOut(x.data(10, 0, 2048, text(20)[10:]))
		x.in(6, 0, 30, "")
		x.wantOut(x.data(20, 0, 2048, text(30)[20:]))
		x.in(5, 0, 90, "")
		x.wantOut()
		x.in(2047, 0, 31, "")
		x.wantOut(x.data(30, 0, 2048, text(31)[30:]))
		x.in(2046, 0, 90, "")
		x.wantOut()
	})
}

func TestTheWindowOfAnElderAck(t *testing.T) {
	everywhere(t, func(x *end) {
		x.in(5, 0, 10, "")
		x.wantWrite(text(90), 90)
		x.in(5, 4, 10, "")
		x.wantOut(x.data(0, 0, 2048, text(10)), x.data(10, 0, 2048, text(14)[10:]))
		x.in(5, 3, 90, "") // the same Seq, and its Ack is ahead
		x.wantOut()
		x.in(6, 3, 90, "") // a newer Seq, but its Ack is old
		x.wantOut()
		x.in(5, 4, 11, "")
		x.wantOut(x.data(14, 0, 2048, text(15)[14:]))
		x.in(5, 5, 11, "") // the same Seq, a newer Ack
		x.wantOut(x.data(15, 0, 2048, text(16)[15:]))
		x.in(4, 8, 90, "") // an elder Seq: its Ack counts, its window does not
		x.wantOut(x.data(16, 0, 2048, text(19)[16:]))
		x.in(5, 8, 12, "")
		x.wantOut(x.data(19, 0, 2048, text(20)[19:]))
	})
}

// Each segment's window counts, if it is not elder, also where it becomes less.
func TestAWindowThatBecomesLess(t *testing.T) {
	x := open(t, 50)
	x.wantWrite(text(90), 90)
	x.wantOut(x.data(0, 0, 2048, text(50)))
	x.in(0, 10, 30, "")
	x.wantOut()
	x.in(0, 20, 30, "")
	x.wantOut()
	x.in(0, 21, 30, "")
	x.wantOut(x.data(50, 0, 2048, text(51)[50:]))
	x.in(0, 21, 0, "")
	x.wantOut()
	x.in(0, 51, 0, "")
	x.wantOut()
	x.in(0, 51, 1, "")
	x.wantOut(x.data(51, 0, 2048, text(52)[51:]))
}

// A window that opens stops the timer that asks; what is sent then lets it run anew.
func TestAWindowThatOpens(t *testing.T) {
	x := slow(t, 0)
	x.wantWrite("abc", 3)
	x.wantOut()
	x.quiet(5)
	x.in(0, 0, 0, "") // it is shut still: the timer goes on
	x.quiet(6)
	x.Tick()
	x.wantOut(x.ack(-1, 0, 2048))
	x.quiet(23)
	x.in(0, 0, 1000, "")
	x.wantOut(x.data(0, 0, 2048, "abc"))
	x.inTicks(24, x.data(0, 0, 2048, "abc"))

	x = slow(t, 0) // a segment that tells no newer window leaves the timer as it is
	x.wantWrite("abc", 3)
	x.quiet(5)
	x.in(0, -1, 1000, "")
	x.quiet(6)
	x.Tick()
	x.wantOut(x.ack(-1, 0, 2048))
}

// If something is out, the timer goes on: it waits for the ack of that.
func TestAWindowThatOpensWhileSomethingIsOut(t *testing.T) {
	x := slow(t, 3)
	x.wantWrite(text(90), 90)
	x.wantOut(x.data(0, 0, 2048, text(3)))
	x.quiet(5)
	x.in(0, 0, 0, "")
	x.quiet(2)
	x.in(0, 0, 5, "")
	x.wantOut(x.data(3, 0, 2048, text(5)[3:]))
	x.inTicks(5, x.data(0, 0, 2048, text(5)))
}

func TestAWindowThatOpensForNothing(t *testing.T) {
	x := open(t, 0)
	x.in(0, 0, 1000, "")
	x.quiet(200)
	x.in(0, 0, 0, "")
	x.quiet(200)
	x.wantState(conn.Open)
}

// A window that opens for the Fin alone, which needs room for one.
func TestAWindowThatOpensForTheFin(t *testing.T) {
	x := slow(t, 0)
	x.Close()
	x.wantOut()
	x.quiet(5)
	x.in(0, 0, 1, "")
	x.wantOut(x.fin(0, 0, 2048))
	x.inTicks(12, x.fin(0, 0, 2048))
}

// All that was out is acknowledged, and the window is shut: the timer stops, and runs anew to ask.
func TestAWindowThatShutsWithTheAck(t *testing.T) {
	x := slow(t, 50)
	x.wantWrite(text(90), 90)
	x.wantOut(x.data(0, 0, 2048, text(50)))
	x.quiet(4)
	x.in(0, 50, 0, "") // of 4 ticks again: the wait is 4 + 8 - 2
	x.inTicks(10, x.ack(49, 0, 2048))
	x.in(0, 50, 100, "")
	x.wantOut(x.data(50, 0, 2048, text(90)[50:]))
}

// A number that is 2^31 away is neither ahead nor behind. With nothing out an Ack that is so far off is none of what was sent, nor an old one: its segment tells the window.
func TestAnAckThatIsNeitherAheadNorBehind(t *testing.T) {
	everywhere(t, func(x *end) {
		x.in(0, 0, 0, "")
		x.in(0, 1<<31, 3, "")
		x.wantOut()
		x.wantWrite("abcdef", 6)
		x.wantOut(x.data(0, 0, 2048, "abc"))
		x.in(0, 1<<31, 6, "") // now it is beyond top
		x.wantOut(x.ack(3, 0, 2048))
		x.in(0, 1, 6, "") // its Ack is ahead of that one, at the same Seq
		x.wantOut(x.data(3, 0, 2048, "d"))
		x.in(1, 1, 6, "")
		x.wantOut(x.data(4, 0, 2048, "ef"))
	})
}
