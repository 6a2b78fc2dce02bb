package conn_test

import (
	"math"
	"testing"

	"blockyard/api"
	"blockyard/conn"
)

// P15.2, what may count

// aside are segments that may not count, when he waits at want with a window that has room: their Seq, and how many bytes they have.
func aside(want, window int) [][2]int {
	return [][2]int{
		{want - 1, 0}, {want - 1, 1}, {want - 2, 2}, {want - 9, 9}, {want - 2048, 0}, {want + window, 0}, {want + window, 1}, {want + window + 1, 5},
		{want + 1<<31 - 1, 0}, {want + 1<<31, 1}, {want + 1<<31 + 1, 3}, {want - 1, window + 2}, {want - 1<<16, 1 << 16},
	}
}

func TestWhatMayNotCountIsAcknowledged(t *testing.T) {
	everywhere(t, func(x *end) {
		x.in(0, 0, 50, "abc")
		x.wantOut(x.ack(0, 3, 2045))
		for _, s := range aside(3, 2045) {
			x.in(s[0], 0, 50, text(s[1]))
			x.wantOut(x.ack(0, 3, 2045))
			x.wantReady(3, false)
		}
		x.wantState(conn.Open)
	})
}

func TestWhatMayNotCountIsNotAnsweredWithRst(t *testing.T) {
	everywhere(t, func(x *end) {
		x.in(0, 0, 50, "abc")
		x.wantOut(x.ack(0, 3, 2045))
		for _, s := range aside(3, 2045) {
			for _, flags := range []int{api.Rst, api.Rst | api.Ack, api.Rst | api.Psh} {
				x.In(x.seg(flags, s[0], 0, 50, text(s[1])))
				x.wantOut()
				x.wantState(conn.Open)
			}
		}
		x.wantReady(3, false)
	})
}

// Nothing of it is looked at: neither what it acknowledges, nor its window, nor its Fin.
func TestWhatMayNotCountChangesNothing(t *testing.T) {
	everywhere(t, func(x *end) {
		x.in(0, 0, 100, "")
		x.wantWrite(text(300), 300)
		x.wantOut(x.data(0, 0, 2048, text(100)))
		for _, s := range aside(0, 2048) {
			x.in(s[0], 100, 1000, text(s[1]))
			x.wantOut(x.ack(100, 0, 2048))
			x.inFin(s[0], 100, 1000, text(max(0, s[1]-1)))
			x.wantOut(x.ack(100, 0, 2048))
			x.wantState(conn.Open)
		}
		x.wantRoom(2048 - 300)
		x.in(0, 100, 50, "")
		x.wantOut(x.data(100, 0, 2048, text(150)[100:]))
	})
}

// A Syn or a Fin has a number as a byte has, so it counts where that is inside the window.
func TestASynAndAFinHaveANumber(t *testing.T) {
	everywhere(t, func(x *end) {
		x.in(0, 0, 1000, "")
		x.wantOut()
		x.inFlags(api.Syn, -1, 0) // his own Syn again
		x.wantOut(x.ack(0, 0, 2048))
		x.inFin(-2, 0, 1000, "a")
		x.wantOut(x.ack(0, 0, 2048))
		x.wantState(conn.Open)
		x.inFin(-1, 0, 1000, "a") // the a was never sent, but its Fin is where it waits
		x.wantState(conn.Left)
		x.wantOut(x.ack(0, 1, 2048))
	})
}

func TestSegmentsThatReachIntoTheWindow(t *testing.T) {
	everywhere(t, func(x *end) {
		x.in(0, 0, 1000, "abc")
		x.wantOut(x.ack(0, 3, 2045))
		x.in(1, 0, 1000, "bcd") // amid
		x.wantOut(x.ack(0, 4, 2044))
		x.in(0, 0, 1000, "abcd") // all of it is there
		x.wantOut(x.ack(0, 4, 2044))
		x.in(0, 0, 1000, "abcde")
		x.wantOut(x.ack(0, 5, 2043))
		x.in(2047, 0, 1000, "zzz") // its first byte is the window's last
		x.wantOut(x.ack(0, 5, 2043))
		x.in(2048, 0, 1000, "yyy") // this one is behind it
		x.wantOut(x.ack(0, 5, 2043))
		x.wantRead(99, "abcde")
		x.in(5, 0, 1000, text(2042))
		x.wantOut(x.ack(0, 2048, 5))
		x.wantRead(2042, text(2042))
		x.wantRead(9, "z")
	})
}

// full is one whose window is shut: 2048 bytes are ready, and not read.
func full(x *end) *end {
	x.in(0, 0, 100, text(2048))
	x.wantOut(x.ack(0, 2048, 0))
	return x
}

// A shut window takes one number: what else the segment tells counts, its data do not.
func TestAtAWindowOfNought(t *testing.T) {
	everywhere(t, func(x *end) {
		full(x)
		x.wantWrite(text(300), 300)
		x.wantOut(x.data(0, 2048, 0, text(100)))

		for _, s := range [][2]int{{2047, 0}, {2047, 1}, {2049, 0}, {2049, 1}, {2047, 3}, {0, 0}, {2048 + 1<<31, 1}} {
			x.in(s[0], 100, 500, text(s[1]))
			x.wantOut(x.ack(100, 2048, 0))
			x.In(x.seg(api.Rst, s[0], 0, 0, text(s[1])))
			x.wantOut()
		}
		x.wantState(conn.Open)
		x.in(2048, 50, 100, "")
		x.wantOut(x.data(100, 2048, 0, text(150)[100:]))
		x.in(2048, 100, 100, "a")
		x.wantOut(x.data(150, 2048, 0, text(200)[150:]))
		x.in(2047, 150, 900, "ab") // its last number is the one
		x.wantOut(x.data(200, 2048, 0, text(250)[200:]))
		x.in(2046, 150, 900, "abc") // its window is told with an elder number
		x.wantOut(x.ack(250, 2048, 0))
		x.wantRoom(2048 - 300 + 150)
		x.in(2048, 200, 100, "abcdef")
		x.wantOut(x.data(250, 2048, 0, text(300)[250:]))
		x.wantReady(2048, false)
	})
}

func TestARstAtAWindowOfNought(t *testing.T) {
	everywhere(t, func(x *end) {
		full(x).In(x.seg(api.Rst, 2049, 0, 0, ""))
		x.wantState(conn.Open)
		x.In(x.seg(api.Rst, 2048, 0, 0, ""))
		x.wantGone(true)
		x.wantOut()
		x.wantReady(2048, false)
	})
}

// A Fin where it waits counts at a window of 0 too: it takes no room.
func TestAFinAtAWindowOfNought(t *testing.T) {
	everywhere(t, func(x *end) {
		full(x).inFin(2049, 0, 100, "")
		x.wantState(conn.Open)
		x.wantOut(x.ack(0, 2048, 0))
		x.inFin(2048, 0, 100, "")
		x.wantState(conn.Left)
		x.wantOut(x.ack(0, 2049, 0))
		x.wantReady(2048, false)
		x.wantRead(2048, text(2048))
		x.wantReady(0, true)
	})
}

// What counts is asked from want on, with the Fin's own number in it, and as wide as in's window.
func TestTheWindowBehindAFin(t *testing.T) {
	everywhere(t, func(x *end) {
		x.inFin(0, 0, 1000, "abc")
		x.wantOut(x.ack(0, 4, 2045))
		x.in(3, 0, 1000, "")
		x.wantOut(x.ack(0, 4, 2045)) // it may not count
		x.in(4, 0, 1000, "")
		x.wantOut()
		x.in(4+2044, 0, 1000, "")
		x.wantOut()
		x.in(4+2045, 0, 1000, "")
		x.wantOut(x.ack(0, 4, 2045))
		x.wantRead(2, "ab")
		x.in(4+2046, 0, 1000, "")
		x.wantOut()
	})
}

// P15.2, Rst

func TestRstAtWhatIsWanted(t *testing.T) {
	for _, flags := range []int{api.Rst, api.Rst | api.Ack, api.Rst | api.Syn, api.Rst | api.Fin, api.Rst | api.Psh, 31, 32 | api.Rst, -1} {
		for _, data := range []string{"", "abc"} {
			everywhere(t, func(x *end) {
				x.in(0, 0, 1000, "hi")
				x.wantOut(x.ack(0, 2, 2046))
				x.In(x.seg(flags, 2, 700, 0, data))
				x.wantGone(true)
				x.wantOut()
				x.wantReady(2, false)
				x.wantRead(9, "hi")
				x.wantRoom(0)
			})
		}
	}
}

func TestRstElsewhere(t *testing.T) {
	everywhere(t, func(x *end) {
		x.in(0, 0, 1000, "hi")
		x.wantOut(x.ack(0, 2, 2046))
		for _, s := range [][2]int{{3, 0}, {4, 0}, {1, 2}, {0, 3}, {2047, 0}, {2047, 9}, {100, 100}} {
			x.In(x.seg(api.Rst|api.Ack, s[0], 0, 7, text(s[1])))
			x.wantOut(x.ack(0, 2, 2046))
		}
		x.In(x.seg(api.Rst|api.Syn, 1, 0, 7, "a"))
		x.wantOut(x.ack(0, 2, 2046))
		x.wantState(conn.Open)
		x.wantReset(false)
		x.wantReady(2, false)
	})
}

func TestRstInSynIn(t *testing.T) {
	everywhere(t, func(x *end) {
		x.inFlags(api.Rst, -1, 0)
		x.wantOut()
		x.inFlags(api.Rst, 1, 0)
		x.wantOut(x.ack(0, 0, 2048))
		x.inFlags(api.Rst|api.Ack, 2047, 0)
		x.wantOut(x.ack(0, 0, 2048))
		x.inFlags(api.Rst|api.Ack, 2048, 0)
		x.wantOut()
		x.wantState(conn.SynIn)
		x.inFlags(api.Rst, 0, 77)
		x.wantGone(true)
		x.wantOut()
	})
}

// Behind his Fin the number is one more.
func TestRstBehindAFin(t *testing.T) {
	everywhere(t, func(x *end) {
		x.inFin(0, 0, 1000, "hi")
		x.wantOut(x.ack(0, 3, 2046))
		x.inFlags(api.Rst, 2, 0)
		x.wantOut()
		x.inFlags(api.Rst, 4, 0)
		x.wantOut(x.ack(0, 3, 2046))
		x.wantState(conn.Left)
		x.inFlags(api.Rst, 3, 0)
		x.wantGone(true)
	})
}

// P15.2, Syn, and no Ack

func TestSynIsAcknowledged(t *testing.T) {
	everywhere(t, func(x *end) {
		for _, flags := range []int{api.Syn, api.Syn | api.Ack, api.Syn | api.Fin, api.Syn | api.Ack | api.Fin, api.Syn | api.Psh} {
			x.inFlags(flags, 0, 0)
			x.wantOut(x.ack(0, 0, 2048))
			x.In(x.seg(flags, 7, 0, 1000, "abc"))
			x.wantOut(x.ack(0, 0, 2048))
		}
		x.wantState(conn.SynIn) // the Ack does not count beside a Syn
		x.in(0, 0, 100, "")
		x.wantWrite(text(300), 300)
		x.wantOut(x.data(0, 0, 2048, text(100)))
		x.In(x.seg(api.Syn|api.Ack|api.Fin, 0, 100, 1000, "abc"))
		x.wantOut(x.ack(100, 0, 2048))
		x.wantState(conn.Open)
		x.wantReady(0, false)
		x.wantRoom(2048 - 300)
	})
}

func TestWithoutAck(t *testing.T) {
	everywhere(t, func(x *end) {
		for _, flags := range []int{0, api.Psh, api.Fin, api.Fin | api.Psh, 32, 1 << 40} {
			x.inFlags(flags, 0, 0)
			x.In(x.seg(flags, 0, 0, 1000, "abc"))
			x.wantOut()
			x.wantState(conn.SynIn)
		}
		x.in(0, 0, 100, "")
		x.wantWrite(text(300), 300)
		x.wantOut(x.data(0, 0, 2048, text(100)))
		for _, flags := range []int{0, api.Psh, api.Fin, 32} {
			x.In(x.seg(flags, 0, 100, 1000, "abc"))
			x.In(x.seg(flags, 0, 700, 1000, "abc"))
			x.wantOut()
		}
		x.wantState(conn.Open)
		x.wantReady(0, false)
		x.wantRoom(2048 - 300)
	})
}

// P15.2, Ack in SynIn

func TestAcksInSynIn(t *testing.T) {
	everywhere(t, func(x *end) {
		for _, ack := range []int{-1, 1, 2, -2, 500, 2048, 2049, 1 << 31, 1<<31 - 1, 1<<31 + 1, -2048} {
			x.in(0, ack, 500, "")
			x.wantOut(x.refusal(ack))
			x.inFin(0, ack, 500, "abc")
			x.wantOut(x.refusal(ack))
			x.in(2047, ack, 500, "abc")
			x.wantOut(x.refusal(ack))
			x.wantState(conn.SynIn)
		}
		x.wantReady(0, false)
		x.wantWrite("abc", 3) // what is written acknowledges nothing more
		x.in(0, 3, 500, "")
		x.wantOut(x.refusal(3))
		x.in(0, 0, 2, "")
		x.wantOut(x.data(0, 0, 2048, "ab"))
		x.wantState(conn.Open)
	})
}

func TestARefusalTellsNoWindow(t *testing.T) {
	x := plainly(t)
	x.in(0, 1, 500, "")
	x.wantOut(x.refusal(1))
	x.in(0, 0, 500, "")
	x.wantRead(9, "")
	x.wantOut()
}

// All else of the segment that opens counts too.
func TestTheAckThatOpens(t *testing.T) {
	everywhere(t, func(x *end) {
		x.wantWrite("hello", 5)
		x.wantOut()
		x.inFin(0, 0, 3, "abc")
		x.wantState(conn.Left)
		x.wantReady(3, false)
		x.wantOut(x.data(0, 4, 2045, "hel"))
	})
	everywhere(t, func(x *end) {
		x.in(5, 0, 1000, "abc") // there is a gap ahead of it
		x.wantState(conn.Open)
		x.wantOut(x.ack(0, 0, 2048))
		x.in(0, 0, 1000, "hello")
		x.wantOut(x.ack(0, 8, 2040))
	})
}

// It tells the window, whatever its numbers are: the first of an elder one is not taken for newer.
func TestTheAckThatOpensTellsTheWindow(t *testing.T) {
	everywhere(t, func(x *end) {
		x.in(7, 0, 3, "")
		x.wantState(conn.Open)
		x.wantWrite(text(90), 90)
		x.wantOut(x.data(0, 0, 2048, text(3)))
		x.in(6, 0, 50, "")
		x.wantOut()
		x.in(7, 0, 5, "")
		x.wantOut(x.data(3, 0, 2048, text(5)[3:]))
		x.in(8, 0, 6, "")
		x.wantOut(x.data(5, 0, 2048, text(6)[5:]))
	})
}

func TestTheAckThatOpensAClosedOne(t *testing.T) {
	everywhere(t, func(x *end) {
		x.wantWrite("ab", 2)
		x.Close()
		x.wantState(conn.SynIn)
		x.wantOut()
		x.in(0, 2, 10, "")
		x.wantOut(x.refusal(2))
		x.in(0, 0, 10, "")
		x.wantState(conn.FinSent)
		x.wantOut(x.data(0, 0, 2048, "ab"), x.fin(2, 0, 2048))
	})
	everywhere(t, func(x *end) {
		x.Close()
		x.inFin(0, 0, 10, "")
		x.wantState(conn.Both)
		x.wantOut(x.fin(0, 1, 2048))
	})
	everywhere(t, func(x *end) {
		x.Close()
		x.in(0, 0, 0, "")
		x.wantState(conn.FinSent)
		x.wantOut()
	})
}

// P15.2, Ack in the others

// behind is one of which 100 bytes were acknowledged, 100 are out, and 50 are not sent.
func behind(x *end) *end {
	x.in(0, 0, 100, "")
	x.wantWrite(text(250), 250)
	x.in(0, 100, 100, "")
	x.wantOut(x.data(0, 0, 2048, text(100)), x.data(100, 0, 2048, text(200)[100:]))
	return x
}

// An old Ack says nothing, nor does its segment's window, but its data count.
func TestAnAckAheadOfUna(t *testing.T) {
	for _, ack := range []int{99, 98, 0, -1, -2000, 100 - 1<<30, 101 - 1<<31} {
		everywhere(t, func(x *end) {
			behind(x).in(0, ack, 1000, "")
			x.wantOut()
			x.in(0, ack, 1000, "abc")
			x.wantOut(x.ack(200, 3, 2045))
			x.wantRoom(2048 - 150)
			x.inFin(3, ack, 1000, "d")
			x.wantOut(x.ack(200, 5, 2044))
			x.wantState(conn.Left)
			x.wantRead(9, "abcd")
		})
	}
}

func TestAnAckBeyondTop(t *testing.T) {
	for _, ack := range []int{201, 202, 250, 251, 100 + 1<<30, 100 + 1<<31} {
		everywhere(t, func(x *end) {
			behind(x).in(0, ack, 1000, "")
			x.wantOut(x.ack(200, 0, 2048))
			x.inFin(0, ack, 1000, "abc")
			x.wantOut(x.ack(200, 0, 2048))
			x.wantState(conn.Open)
			x.wantReady(0, false)
			x.wantRoom(2048 - 150)
		})
	}
}

// In no state is anything of such a segment taken.
func TestAnAckBeyondTopInEachState(t *testing.T) {
	eachState(t, func(x stand, state int) {
		if state == conn.SynIn || state == conn.Gone {
			return
		}
		for _, more := range []int{1, 2, 100, 1 << 30} {
			x.inFin(x.want, x.sent+more, 0, "abc")
			x.wantState(state)
			x.wantOut(x.ack(x.sent, x.want, 2048))
			x.wantReady(0, x.want > 0)
		}
	})
}

// The Fin's number is not acknowledged, unless it was sent.
func TestAnAckOfAFinThatWasNotSent(t *testing.T) {
	everywhere(t, func(x *end) {
		x.in(0, 0, 3, "")
		x.wantWrite("abc", 3)
		x.Close()
		x.wantOut(x.data(0, 0, 2048, "abc"))
		x.in(0, 4, 3, "")
		x.wantOut(x.ack(3, 0, 2048))
		x.wantState(conn.FinSent)
		x.in(0, 3, 3, "")
		x.wantOut(x.fin(3, 0, 2048))
		x.in(0, 5, 3, "")
		x.wantOut(x.ack(4, 0, 2048))
		x.wantState(conn.FinSent)
		x.in(0, 4, 3, "")
		x.wantState(conn.FinDone)
	})
}

func TestAnAckBetweenUnaAndTop(t *testing.T) {
	for _, ack := range []int{100, 101, 150, 199, 200} {
		everywhere(t, func(x *end) {
			behind(x).in(0, ack, 200-ack, "")
			x.wantOut()
			x.wantRoom(2048 - 250 + ack)
			x.in(0, ack, 201-ack, "")
			x.wantOut(x.data(200, 0, 2048, text(201)[200:]))
		})
	}
}

// An acknowledgement's Seq is nxt, also when more was sent ahead of that.
func TestAcknowledgementsTellNxt(t *testing.T) {
	everywhere(t, func(x *end) {
		x.in(0, 0, 1000, "")
		x.wantWrite(text(300), 300)
		x.Close()
		x.Out()
		x.inTicks(2, x.data(0, 0, 2048, text(100)))
		x.inFlags(api.Syn, 5, 0)
		x.wantOut(x.ack(100, 0, 2048))
		x.in(-5, 0, 1000, "")
		x.wantOut(x.ack(100, 0, 2048))
		x.inFlags(api.Rst, 5, 0)
		x.wantOut(x.ack(100, 0, 2048))
		x.in(0, 302, 1000, "")
		x.wantOut(x.ack(100, 0, 2048))
		x.in(0, 0, 100, "abc") // nothing has room
		x.wantOut(x.ack(100, 3, 2045))
	})
}

// R1

func TestWrongNumbersComing(t *testing.T) {
	odd := []int{0, 1, -1, -5, 65535, 65536, 1 << 31, 1 << 32, 1 << 40, math.MaxInt, math.MinInt, math.MinInt + 1}
	for _, window := range odd {
		for _, flags := range append(odd, 16, 17, 24, -16, -15) {
			x := open(t, 100)
			x.wantWrite(text(2048), 2048)
			for _, ack := range []int{0, 50, 100} {
				x.In(api.Seg{From: window, To: flags, Seq: x.his, Ack: x.mine + uint32(ack), Flags: flags, Window: window, MSS: window, Data: "abc"})
				for range 70 {
					x.Tick()
				}
			}
			x.Close()
			x.Probe()
			x.Write("x")
			x.Abort()
			x.wantState(conn.Gone)
		}
	}
}
