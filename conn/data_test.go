package conn_test

import (
	"testing"

	"blockyard/api"
	"blockyard/conn"
)

// P15.2, data

func TestDataInOrder(t *testing.T) {
	everywhere(t, func(x *end) {
		x.in(0, 0, 1000, "abc")
		x.wantOut(x.ack(0, 3, 2045))
		x.in(3, 0, 1000, "de")
		x.wantOut(x.ack(0, 5, 2043))
		x.in(5, 0, 1000, "") // of nothing nothing is said
		x.wantOut()
		x.wantReady(5, false)
		x.wantRead(4, "abcd")
		x.in(5, 0, 1000, "f")
		x.wantOut(x.ack(0, 6, 2046))
		x.wantRead(9, "ef")
		x.wantRead(9, "")
	})
}

// What comes behind a gap waits, and each piece is acknowledged up to the gap.
func TestDataBehindAGap(t *testing.T) {
	everywhere(t, func(x *end) {
		x.in(4, 0, 1000, "ef")
		x.wantOut(x.ack(0, 0, 2048))
		x.in(2, 0, 1000, "c")
		x.wantOut(x.ack(0, 0, 2048))
		x.wantReady(0, false)
		x.wantRead(9, "")
		x.in(0, 0, 1000, "ab")
		x.wantOut(x.ack(0, 3, 2045))
		x.in(3, 0, 1000, "d")
		x.wantOut(x.ack(0, 6, 2042))
		x.wantRead(9, "abcdef")
	})
}

// What was read, and what is ready, stays as it came first.
func TestDataThatComeAgain(t *testing.T) {
	everywhere(t, func(x *end) {
		x.in(0, 0, 1000, "abc")
		x.wantOut(x.ack(0, 3, 2045))
		x.wantRead(1, "a")
		x.in(0, 0, 1000, "ABC") // ahead of what is wanted
		x.wantOut(x.ack(0, 3, 2046))
		x.in(0, 0, 1000, "ABCDE") // amid
		x.wantOut(x.ack(0, 5, 2044))
		x.in(7, 0, 1000, "hi") // behind
		x.in(6, 0, 1000, "GHIJ")
		x.wantOut(x.ack(0, 5, 2044), x.ack(0, 5, 2044))
		x.in(5, 0, 1000, "f")
		x.wantOut(x.ack(0, 10, 2039))
		x.wantRead(99, "bcDEfGhiJ")
	})
}

func TestDataAtTheWindowsEnd(t *testing.T) {
	everywhere(t, func(x *end) {
		x.in(2040, 0, 1000, "abcdefghijkl") // 8 of them are inside
		x.wantOut(x.ack(0, 0, 2048))
		x.in(0, 0, 1000, text(2040))
		x.wantOut(x.ack(0, 2048, 0))
		x.in(2048, 0, 1000, "ijkl")
		x.wantOut(x.ack(0, 2048, 0))
		x.wantRead(2048, text(2040)+"abcdefgh")
		x.wantOut(x.ack(0, 2048, 2048))
		x.in(2048, 0, 1000, "ijkl")
		x.wantOut(x.ack(0, 2052, 2044))
		x.wantRead(9, "ijkl")
	})
}

// What is sent with the ack of data says it too: nothing is sent but that.
func TestDataAreAcknowledgedByWhatIsSent(t *testing.T) {
	everywhere(t, func(x *end) {
		x.in(0, 0, 5, "")
		x.wantWrite(text(20), 20)
		x.wantOut(x.data(0, 0, 2048, text(5)))
		x.in(0, 5, 5, "abc")
		x.wantOut(x.data(5, 3, 2045, text(10)[5:]))
		x.in(3, 5, 5, "d")
		x.wantOut(x.ack(10, 4, 2044))
		x.in(4, 10, 500, "e")
		x.wantOut(x.data(10, 5, 2043, text(20)[10:]))
		x.Close()
		x.wantOut(x.fin(20, 5, 2043))
		x.in(5, 20, 500, "f")
		x.wantOut(x.ack(21, 6, 2042))
	})
	everywhere(t, func(x *end) { // by the Fin alone
		x.in(0, 0, 0, "")
		x.Close()
		x.wantOut()
		x.in(0, 0, 1, "a")
		x.wantOut(x.fin(0, 1, 2047))
	})
}

// Data come in FinSent and FinDone too.
func TestDataBehindMyFin(t *testing.T) {
	everywhere(t, func(x *end) {
		x.in(0, 0, 1000, "")
		x.Close()
		x.wantOut(x.fin(0, 0, 2048))
		x.in(0, 0, 1000, "abc")
		x.wantState(conn.FinSent)
		x.wantOut(x.ack(1, 3, 2045))
		x.in(3, 1, 1000, "de")
		x.wantState(conn.FinDone)
		x.wantOut(x.ack(1, 5, 2043))
		x.in(7, 1, 1000, "h")
		x.in(5, 1, 1000, "fg")
		x.wantOut(x.ack(1, 5, 2043), x.ack(1, 8, 2040))
		x.wantRead(99, "abcdefgh")
		x.wantReady(0, false)
	})
}

// Behind his Fin none come any more, whatever is told there.
func TestDataBehindHisFin(t *testing.T) {
	for _, state := range []int{conn.Left, conn.LastOut, conn.Both, conn.Linger} {
		x := in(t, state)
		x.wantReady(0, true)
		x.in(1, x.acked, 1000, "abc")
		x.wantOut(x.ack(x.sent, 1, 2048))
		x.wantState(state)
		x.wantReady(0, true)
		x.wantRead(9, "")
		x.in(0, x.acked, 1000, "abc")
		x.wantOut(x.ack(x.sent, 1, 2048))
		x.wantReady(0, true)
	}
}

// P15.2, his Fin

func TestAFin(t *testing.T) {
	everywhere(t, func(x *end) {
		x.in(0, 0, 1000, "")
		x.inFin(0, 0, 1000, "")
		x.wantState(conn.Left)
		x.wantOut(x.ack(0, 1, 2048))
		x.wantReady(0, true)
	})
	everywhere(t, func(x *end) { // behind its data
		x.in(0, 0, 1000, "ab")
		x.wantOut(x.ack(0, 2, 2046))
		x.inFin(2, 0, 1000, "cd")
		x.wantState(conn.Left)
		x.wantOut(x.ack(0, 5, 2044))
		x.wantReady(4, false)
		x.wantRead(3, "abc")
		x.wantReady(1, false)
		x.wantRead(3, "d")
		x.wantReady(0, true)
	})
	everywhere(t, func(x *end) { // of which some are there
		x.in(0, 0, 1000, "ab")
		x.in(3, 0, 1000, "d")
		x.wantOut(x.ack(0, 2, 2046), x.ack(0, 2, 2046))
		x.inFin(1, 0, 1000, "bcd")
		x.wantState(conn.Left)
		x.wantOut(x.ack(0, 5, 2044))
		x.wantRead(9, "abcd")
	})
}

// A Fin is taken when all ahead of it is there, and not kept till then: it comes again.
func TestAFinBehindAGap(t *testing.T) {
	everywhere(t, func(x *end) {
		x.in(0, 0, 1000, "")
		x.inFin(2, 0, 1000, "cd")
		x.wantState(conn.Open)
		x.wantOut(x.ack(0, 0, 2048))
		x.inFin(4, 0, 1000, "")
		x.wantOut(x.ack(0, 0, 2048))
		x.in(0, 0, 1000, "ab")
		x.wantState(conn.Open)
		x.wantOut(x.ack(0, 4, 2044))
		x.wantRead(9, "abcd")
		x.wantReady(0, false)
		x.inFin(2, 0, 1000, "cd")
		x.wantState(conn.Left)
		x.wantOut(x.ack(0, 5, 2048))
		x.wantReady(0, true)
	})
}

// Its data are not all inside the window: so its number is not the one that is waited for.
func TestAFinBehindTheWindow(t *testing.T) {
	everywhere(t, func(x *end) {
		x.in(0, 0, 1000, text(2000))
		x.wantOut(x.ack(0, 2000, 48))
		x.inFin(2000, 0, 1000, text(49))
		x.wantState(conn.Open)
		x.wantOut(x.ack(0, 2048, 0))
		x.wantRead(2, text(2))
		x.inFin(2047, 0, 1000, "xy")
		x.wantState(conn.Left)
		x.wantOut(x.ack(0, 2050, 1))
	})
	everywhere(t, func(x *end) { // just so many as there is room for
		x.in(0, 0, 1000, text(2000))
		x.wantOut(x.ack(0, 2000, 48))
		x.inFin(2000, 0, 1000, text(48))
		x.wantState(conn.Left)
		x.wantOut(x.ack(0, 2049, 0))
	})
}

// One that comes again lies ahead of the window: it is acknowledged, and changes nothing.
func TestAFinThatComesAgain(t *testing.T) {
	for _, state := range []int{conn.Left, conn.LastOut, conn.Both, conn.Linger} {
		x := in(t, state)
		for range 3 {
			x.inFin(0, x.acked, 1000, "")
			x.wantState(state)
			x.wantOut(x.ack(x.sent, 1, 2048))
			x.wantReady(0, true)
		}
	}
}

// A Fin where one more is waited for counts, but there is no second one.
func TestAFinBehindHisFin(t *testing.T) {
	for _, state := range []int{conn.Left, conn.LastOut, conn.Both, conn.Linger} {
		for _, s := range []struct {
			seq  int
			data string
		}{{1, ""}, {0, "a"}, {0, "abc"}, {1, "abc"}, {2, ""}, {9, "a"}} {
			x := in(t, state)
			x.inFin(s.seq, x.acked, 1000, s.data)
			x.wantState(state)
			x.wantOut(x.ack(x.sent, 1, 2048))
			x.wantReady(0, true)
		}
	}
}

// P15.2, lingering

func TestLingerBehindHisFin(t *testing.T) {
	x := in(t, conn.FinDone)
	x.inFin(0, 1, 1000, "")
	x.wantState(conn.Linger)
	x.wantOut(x.ack(1, 1, 2048))
	x.quiet(4)
	x.Tick()
	x.wantGone(false)
	x.wantOut()
}

func TestLingerBehindTheAckOfMyFin(t *testing.T) {
	x := in(t, conn.Both)
	x.quiet(1)
	x.in(1, 1, 1000, "")
	x.wantState(conn.Linger)
	x.wantOut()
	x.quiet(4)
	x.Tick()
	x.wantGone(false)
}

func TestLingerAsLongAsItIsAsked(t *testing.T) {
	for _, linger := range []int{1, 2, 7, 100, 1000} {
		o := usual()
		o.Linger = linger
		x := made(t, o, 100, 1, 1)
		x.in(0, 0, 1000, "")
		x.Close()
		x.inFin(0, 1, 1000, "")
		x.wantState(conn.Linger)
		x.Out()
		x.quiet(linger - 1)
		x.Tick()
		x.wantGone(false)
	}
}

// A Fin that counts lets it linger anew; one that does not, and all else, lets it be.
func TestAFinInLinger(t *testing.T) {
	x := in(t, conn.Linger)
	x.quiet(3)
	x.inFin(1, 1, 1000, "")
	x.wantOut(x.ack(1, 1, 2048))
	x.quiet(4)
	x.inFin(0, 1, 1000, "a")
	x.wantOut(x.ack(1, 1, 2048))
	x.quiet(4)
	x.inFin(5, 1, 1000, "")
	x.wantOut(x.ack(1, 1, 2048))
	x.quiet(4)
	x.Tick()
	x.wantGone(false)

	for _, s := range []api.Seg{
		x.seg(api.Ack|api.Fin, 0, 1, 1000, ""), x.seg(api.Ack, 1, 1, 1000, ""), x.seg(api.Ack, 1, 1, 1000, "abc"), x.seg(api.Fin, 1, 1, 1000, ""),
		x.seg(api.Ack|api.Fin, 1, 2, 1000, ""), x.seg(api.Ack|api.Fin|api.Syn, 1, 1, 1000, ""), x.seg(api.Rst|api.Fin, 2, 1, 1000, ""),
	} {
		x := in(t, conn.Linger)
		x.quiet(4)
		x.In(s)
		x.wantState(conn.Linger)
		x.Tick()
		x.wantGone(false)
	}
}

// In the other states no Fin lets anything linger.
func TestAFinDoesNotLingerElsewhere(t *testing.T) {
	x := in(t, conn.Both)
	x.inFin(1, 0, 1000, "")
	x.wantOut(x.ack(1, 1, 2048))
	x.quiet(1)
	x.in(1, 1, 1000, "")
	x.wantState(conn.Linger)
	x.quiet(4)
	x.Tick()
	x.wantGone(false)
	x = in(t, conn.Left)
	x.inFin(1, 0, 1000, "")
	x.Out()
	x.quiet(500)
}
