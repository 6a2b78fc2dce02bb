package sbuf_test

import (
	"math"
	"strings"
	"testing"

	"blockyard/api"
)

// P13.3

// low are the numbers of bytes that ask for none.
func low() []int {
	return []int{math.MinInt, math.MinInt + 1, math.MinInt + 2, math.MinInt + 2048, -1<<32 + 1, -1 << 32, -1 << 31, -2048, -2, -1, 0}
}

// high are the numbers of bytes that ask for more than there may be.
func high() []int {
	return []int{2049, 1 << 16, 1<<31 - 1, 1 << 31, 1<<32 - 1, 1 << 32, 1<<32 + 1, math.MaxInt - 2048, math.MaxInt - 1, math.MaxInt}
}

func TestGetWithoutBytes(t *testing.T) {
	for _, una := range starts() {
		b := made(t, una, 8)
		for range 2 {
			at := b.Una()
			for i := -20; i <= 20; i++ {
				for _, n := range append(append(low(), 1, 2, 8), high()...) {
					wantGet(t, b, at+uint32(i), n, "")
				}
			}
			wantWrite(t, b, "abcdefgh", 8)
			wantAck(t, b, at+8, 8)
		}
	}
}

func TestGetOfFewerThanOne(t *testing.T) {
	for _, una := range starts() {
		b := filled(t, una, 8, "abcde")
		for i := range uint32(8) {
			for _, n := range low() {
				wantGet(t, b, una+i, n, "")
			}
		}
		wantAll(t, b, "abcde")
	}
}

// Every stretch of a small buffer, and what reaches out of it.
func TestGetOfEachStretch(t *testing.T) {
	const room = 9
	for _, una := range starts() {
		for there := range room + 1 {
			stream := text(there)
			b := filled(t, una, room, stream)
			for i := -20; i <= 20; i++ {
				for n := 1; n <= room+3; n++ {
					want := ""
					if i >= 0 && i < there {
						want = stream[i:min(i+n, there)]
					}
					wantGet(t, b, una+uint32(i), n, want)
				}
			}
		}
	}
}

func TestGetOfAsManyAsThereAreAndOneMore(t *testing.T) {
	for _, una := range starts() {
		for _, room := range []int{1, 2, 536, 2047, 2048} {
			stream := text(room)
			b := filled(t, una, room, stream)
			for _, i := range []int{0, room / 2, room - 1} {
				at, rest := una+uint32(i), room-i
				wantGet(t, b, at, rest-1, stream[i:i+rest-1])
				wantGet(t, b, at, rest, stream[i:])
				wantGet(t, b, at, rest+1, stream[i:])
				wantGet(t, b, at, 1, stream[i:i+1])
				for _, n := range high() {
					wantGet(t, b, at, n, stream[i:])
				}
			}
			for _, n := range append(high(), 1, 2, room) {
				wantGet(t, b, una-1, n, "")
				wantGet(t, b, una+uint32(room), n, "")
				wantGet(t, b, una+uint32(room)+1, n, "")
			}
		}
	}
}

func TestGetFarOff(t *testing.T) {
	for _, una := range starts() {
		for _, there := range []int{1, 2, 2047, 2048} {
			b := filled(t, una, 2048, text(there))
			for _, far := range farOff() {
				for _, n := range []int{1, 2048, math.MaxInt} {
					wantGet(t, b, una+far, n, "")
				}
			}
		}
	}
}

// The rest of the room, where no byte is, is not told, nor what was there and went.
func TestGetOfWhatWentAndOfWhatIsNotThereYet(t *testing.T) {
	for _, una := range starts() {
		b := filled(t, una, 8, "abcdefgh")
		wantAck(t, b, una+5, 5)
		for i := range uint32(5) {
			wantGet(t, b, una+i, 9, "")
		}
		wantAll(t, b, "fgh")
		for i := range uint32(20) {
			wantGet(t, b, una+8+i, 9, "")
		}
		wantWrite(t, b, "ij", 2)
		wantAll(t, b, "fghij")
		for i := range uint32(20) {
			wantGet(t, b, una+10+i, 9, "")
		}
	}
}

// The same bytes are told as often as they are asked for.
func TestGetAgain(t *testing.T) {
	for _, una := range starts() {
		b := filled(t, una, 8, "abcdef")
		for range 4 {
			wantGet(t, b, una+2, 3, "cde")
			wantGet(t, b, una, 2, "ab")
			wantGet(t, b, una+5, 3, "f")
		}
	}
}

// A text that was told stays as it was, whatever is written and acknowledged.
func TestWhatWasToldStays(t *testing.T) {
	for _, una := range starts() {
		for _, room := range []int{1, 2, 8, 16, 2048} {
			b := made(t, una, room)
			var told, want []string
			for i := range 60 {
				b.Write(strings.Repeat(string(rune('A'+i)), 1+i%room))
				for range 3 {
					s := b.Get(b.Una()+uint32(i%3), room)
					told, want = append(told, s), append(want, strings.Clone(s))
				}
				b.Ack(b.Una() + 1 + uint32(i*7%room))
			}
			for i := range told {
				if told[i] != want[i] {
					t.Fatalf("room %d: what was told is %q, and was %q", room, told[i], want[i])
				}
			}
		}
	}
}

// Each number of a full buffer of each room: the last byte, and none behind it.
func TestGetAtTheEndsOfEachRoom(t *testing.T) {
	stream := text(api.Room)
	for room := 1; room <= api.Room; room++ {
		una := uint32(1<<32 - room/2)
		b := filled(t, una, room, stream[:room])
		wantGet(t, b, una, 1, stream[:1])
		wantGet(t, b, una+uint32(room-1), 2, stream[room-1:room])
		wantGet(t, b, una+uint32(room), 1, "")
		wantGet(t, b, una-1, 1, "")
		wantGet(t, b, 0, room, stream[room/2:room])
	}
}
