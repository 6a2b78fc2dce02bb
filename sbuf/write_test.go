package sbuf_test

import (
	"math"
	"testing"
	"unsafe"

	"blockyard/api"
)

// P13.2: Write

func TestWriteOfNothing(t *testing.T) {
	for _, una := range starts() {
		b := made(t, una, 4)
		wantWrite(t, b, "", 0)
		wantWrite(t, b, "ab", 2)
		wantWrite(t, b, "", 0)
		wantWrite(t, b, "cd", 2)
		wantWrite(t, b, "", 0)
		wantAll(t, b, "abcd")
		wantAck(t, b, una+4, 4)
		wantWrite(t, b, "", 0)
		wantAll(t, b, "")
	}
}

func TestWriteOneByOne(t *testing.T) {
	for _, una := range starts() {
		for _, room := range []int{1, 2, 3, 100, 2047, 2048} {
			b, stream := made(t, una, room), text(room)
			for i := range room {
				wantState(t, b, una, i, room-i)
				wantWrite(t, b, stream[i:i+1], 1)
				wantGet(t, b, una+uint32(i), 9, stream[i:i+1])
			}
			wantWrite(t, b, "x", 0)
			wantGet(t, b, una, room, stream)
		}
	}
}

func TestWriteOfEachLength(t *testing.T) {
	for _, una := range starts() {
		for _, room := range []int{1, 2, 7, 8, 536, 2047, 2048} {
			for _, n := range []int{0, 1, room - 1, room, room + 1, 2 * room, 2047, 2048, 2049, 1<<16 - 1, 1 << 16, 1<<16 + 1, 1 << 20} {
				b := made(t, una, room)
				fit := min(n, room)
				wantWrite(t, b, text(n), fit)
				wantState(t, b, una, fit, room-fit)
				wantGet(t, b, una, math.MaxInt, text(fit))
			}
		}
	}
}

// The same into what is left of the room: the first bytes of the text are those that are taken.
func TestWriteBehindOthers(t *testing.T) {
	for _, una := range starts() {
		for _, room := range []int{2, 3, 8, 20} {
			for there := 1; there <= room; there++ {
				for n := range room + 3 {
					b := filled(t, una, room, other(text(there)))
					fit := min(n, room-there)
					wantWrite(t, b, text(n), fit)
					wantAll(t, b, other(text(there))+text(fit))
				}
			}
		}
	}
}

func TestWriteIntoAFullBuffer(t *testing.T) {
	for _, una := range starts() {
		for _, room := range []int{1, 2, 8, 2048} {
			b := filled(t, una, room, text(room))
			for _, n := range []int{0, 1, 2, room, room + 1, 1 << 16} {
				wantWrite(t, b, other(text(n)), 0)
			}
			wantGet(t, b, una, math.MaxInt, text(room))
			wantAck(t, b, una+1, 1)
			wantWrite(t, b, "xyz", 1)
			wantWrite(t, b, "yz", 0)
			wantGet(t, b, una+1, math.MaxInt, text(room)[1:]+"x")
		}
	}
}

// Bytes are bytes: a nought, or one that is no letter, is told as it was written.
func TestWriteOfEachByte(t *testing.T) {
	for x := range 256 {
		s := string([]byte{byte(x)})
		b := filled(t, 7, 4, s+other(s)+s)
		wantAll(t, b, s+other(s)+s)
		wantAck(t, b, 8, 1)
		wantAll(t, b, other(s)+s)
	}
}

// What is handed in is not kept: a text whose memory is used for something else behind the call.
func TestWriteKeepsNoText(t *testing.T) {
	for _, first := range []string{"", "xy"} {
		b, data := filled(t, 5, 8, first), []byte("abcdef")
		wantWrite(t, b, unsafe.String(&data[0], 6), 6)
		clear(data)
		wantAll(t, b, first+"abcdef")
	}
}

// Nor is it changed, whatever is written behind it and acknowledged.
func TestWriteChangesNoText(t *testing.T) {
	b, data := made(t, 5, 8), []byte("abcdefgh")
	s := unsafe.String(&data[0], 4)
	for range 5 {
		wantWrite(t, b, s, 4)
		wantWrite(t, b, "WXYZ", 4)
		wantAck(t, b, b.Una()+3, 3)
		wantWrite(t, b, "UV", 2)
		wantAck(t, b, b.End(), 7)
	}
	if string(data) != "abcdefgh" {
		t.Fatalf("%q", data)
	}
}

// P13.2: Ack

func TestAckWithoutBytes(t *testing.T) {
	for _, una := range starts() {
		for _, room := range []int{1, 8, 2047, 2048} {
			b := made(t, una, room)
			for i := -2050; i <= 2050; i++ {
				wantAck(t, b, una+uint32(i), 0)
			}
			for _, far := range farOff() {
				wantAck(t, b, una+far, 0)
			}
			wantWrite(t, b, "a", 1)
			wantAll(t, b, "a")
		}
	}
}

// Every number around a buffer, with every number of bytes in it.
func TestAckOfEachNumber(t *testing.T) {
	const room = 9
	for _, una := range starts() {
		for there := range room + 1 {
			for i := -20; i <= 30; i++ {
				b, stream := filled(t, una, room, text(there)), text(there)
				gone := 0
				if i >= 1 && i <= there {
					gone = i
				}
				wantAck(t, b, una+uint32(i), gone)
				wantAll(t, b, stream[gone:])
				wantWrite(t, b, "xyzxyzxyzxyz", room-there+gone)
				wantAll(t, b, stream[gone:]+"xyzxyzxyzxyz"[:room-there+gone])
			}
		}
	}
}

func TestAckOfAFullBuffer(t *testing.T) {
	for _, una := range starts() {
		for _, room := range []int{1, 2, 8, 2047, 2048} {
			stream := text(room)
			for _, none := range []uint32{0, uint32(room) + 1, uint32(room) + 2, 1 << 31, 1<<31 - 1, 1<<31 + 1, 1<<31 + uint32(room), 1<<32 - 1, -uint32(room)} {
				b := filled(t, una, room, stream)
				wantAck(t, b, una+none, 0)
				wantGet(t, b, una, math.MaxInt, stream)
			}
			for _, n := range []int{1, (room + 1) / 2, max(1, room-1), room} {
				b := filled(t, una, room, stream)
				wantAck(t, b, una+uint32(n), n)
				wantState(t, b, una+uint32(n), room-n, n)
				wantGet(t, b, una+uint32(n), math.MaxInt, stream[n:])
				wantGet(t, b, una+uint32(n)-1, math.MaxInt, "")
			}
		}
	}
}

func TestAckFarOff(t *testing.T) {
	for _, una := range starts() {
		for _, there := range []int{1, 2, 2047, 2048} {
			b := filled(t, una, 2048, text(there))
			for _, far := range farOff() {
				wantAck(t, b, una+far, 0)
			}
			wantGet(t, b, una, math.MaxInt, text(there))
		}
	}
}

// The same number twice lets nothing go the second time, nor does one that was acknowledged before.
func TestAckAgain(t *testing.T) {
	for _, una := range starts() {
		b := filled(t, una, 8, "abcdefgh")
		for range 3 {
			wantAck(t, b, una+0, 0)
		}
		wantAck(t, b, una+3, 3)
		for i := range uint32(4) {
			wantAck(t, b, una+i, 0)
		}
		wantAck(t, b, una+5, 2)
		for i := range uint32(6) {
			wantAck(t, b, una+i, 0)
		}
		wantAll(t, b, "fgh")
		wantAck(t, b, una+8, 3)
		for i := range uint32(12) {
			wantAck(t, b, una+i, 0)
		}
		wantAll(t, b, "")
		wantState(t, b, una+8, 0, 8)
	}
}

func TestAckOneByOne(t *testing.T) {
	for _, una := range starts() {
		for _, room := range []int{1, 2, 100, 2048} {
			b, stream := filled(t, una, room, text(room)), text(room)
			for i := range room {
				wantGet(t, b, una+uint32(i), 5, stream[i:min(i+5, room)])
				wantAck(t, b, una+uint32(i+1), 1)
			}
			wantAck(t, b, una+uint32(room+1), 0)
			wantState(t, b, una+uint32(room), 0, room)
		}
	}
}

// The room that an Ack makes can be written into, and no more than that.
func TestAckMakesRoom(t *testing.T) {
	for _, una := range starts() {
		for room := 1; room <= 12; room++ {
			for n := 1; n <= room; n++ {
				b := filled(t, una, room, text(room))
				wantAck(t, b, una+uint32(n), n)
				wantWrite(t, b, text(3 * room)[room:], n)
				wantWrite(t, b, "x", 0)
				wantAll(t, b, text(room + n)[n:])
			}
		}
	}
}

func TestSmallestRoom(t *testing.T) {
	for _, una := range starts() {
		b := made(t, una, 1)
		for i := range 300 {
			at, x := una+uint32(i), text(i + 1)[i:]
			wantAck(t, b, at+1, 0)
			wantWrite(t, b, x+"XX", 1)
			wantWrite(t, b, "X", 0)
			wantAll(t, b, x)
			wantAck(t, b, at, 0)
			wantAck(t, b, at+2, 0)
			wantAck(t, b, at+1, 1)
			wantAll(t, b, "")
		}
	}
}

func TestGreatestRoom(t *testing.T) {
	const room = api.Room
	stream := text(40 * room)
	for _, una := range starts() {
		b := made(t, una, room)
		for i := range 20 {
			at := room * i
			wantWrite(t, b, stream[at:], room)
			wantGet(t, b, una+uint32(at), math.MaxInt, stream[at:at+room])
			wantAck(t, b, una+uint32(at+room), room)
		}
	}
}
