package slots_test

import (
	"encoding/binary"
	"hash/adler32"
	"math"
	"math/rand"
	"strings"
	"testing"
	"unsafe"

	"hustings/api"
	"hustings/slots"
)

const greatest = 1<<32 - 1

var unwritten = strings.Repeat("\x00", api.SlotSize)

// summed lays any numbers, and a sum of them that is right, without the program's help.
func summed(numbers ...uint32) string {
	var b []byte
	for _, n := range numbers {
		b = binary.BigEndian.AppendUint32(b, n)
	}
	return string(binary.BigEndian.AppendUint32(b, adler32.Checksum(b)))
}

// slotOf is the slot of a number and a credential.
func slotOf(number int, c api.Credential) string {
	return summed(uint32(number), uint32(c.Promised), uint32(c.To), uint32(c.Epoch), uint32(c.News), uint32(number))
}

func checkEncoded(t *testing.T, number int, c api.Credential) {
	t.Helper()
	want := slotOf(number, c)
	if got, e := slots.Encode(number, c); e != api.OK || got != want {
		t.Errorf("P3: Encode(%d, %+v) = %x, %d, want %x, OK", number, c, got, e, want)
	}
}

func checkRefused(t *testing.T, number int, c api.Credential) {
	t.Helper()
	if got, e := slots.Encode(number, c); e != api.ErrArg || got != "" {
		t.Errorf("P3, P1: Encode(%d, %+v) = %x, %d, want no slot and ErrArg", number, c, got, e)
	}
}

func checkNewest(t *testing.T, what, disk string, c api.Credential, number, at int) {
	t.Helper()
	if gotC, gotN, gotAt := slots.Newest(disk); gotC != c || gotN != number || gotAt != at {
		t.Errorf("P4: %s: Newest(%x) = %+v, %d, %d, want %+v, %d, %d", what, disk, gotC, gotN, gotAt, c, number, at)
	}
}

func checkNone(t *testing.T, what, disk string) {
	t.Helper()
	checkNewest(t, what, disk, api.Credential{}, 0, -1)
}

// withEach gives a credential that has n in one of its places, for each place.
func withEach(n int) []api.Credential {
	return []api.Credential{{Promised: n}, {To: n}, {Epoch: n}, {News: n}}
}

func TestEncodeExample(t *testing.T) {
	want := "\x00\x00\x00\x01" + unwritten[:16] + "\x00\x00\x00\x01\x00\x2e\x00\x03"
	if got, e := slots.Encode(1, api.Credential{}); e != api.OK || got != want {
		t.Errorf("P3: the example: %x, %d, want %x, OK", got, e, want)
	}
}

// TestEncodeOrder: the bytes are written out by hand, so that the order of fields and bytes hangs on no helper.
func TestEncodeOrder(t *testing.T) {
	want := "\x01\x02\x03\x04" + "\x11\x12\x13\x14" + "\x21\x22\x23\x24" + "\x31\x32\x33\x34" + "\x41\x42\x43\x44" + "\x01\x02\x03\x04"
	got, e := slots.Encode(0x01020304, api.Credential{Promised: 0x11121314, To: 0x21222324, Epoch: 0x31323334, News: 0x41424344})
	if e != api.OK || len(got) != api.SlotSize || got[:24] != want {
		t.Errorf("P3: %x, %d, want %x and a sum", got, e, want)
	}
}

func TestEncodeOrdinary(t *testing.T) {
	checkEncoded(t, 2, api.Credential{Promised: 1, To: 2, Epoch: 1, News: 7})
	checkEncoded(t, 7, api.Credential{Promised: 1000, To: 6, Epoch: 999, News: 1000000000})
	r := rand.New(rand.NewSource(1))
	for range 1000 {
		c := api.Credential{Promised: int(r.Uint32()), To: int(r.Uint32()), Epoch: int(r.Uint32()), News: int(r.Uint32())}
		checkEncoded(t, 1+int(r.Uint32()>>1), c)
	}
}

func TestEncodeEdges(t *testing.T) {
	for _, number := range []int{1, 255, 256, greatest - 1, greatest} {
		checkEncoded(t, number, api.Credential{})
		checkEncoded(t, number, api.Credential{Promised: greatest, To: greatest, Epoch: greatest, News: greatest})
		for _, n := range []int{1, math.MaxInt32, math.MaxInt32 + 1, greatest} {
			for _, c := range withEach(n) {
				checkEncoded(t, number, c)
			}
		}
	}
}

func TestEncodeRefuses(t *testing.T) {
	full := api.Credential{Promised: greatest, To: greatest, Epoch: greatest, News: greatest}
	for _, number := range []int{0, -1, greatest + 1, 1<<32 + 1, math.MaxInt, math.MinInt} {
		checkRefused(t, number, api.Credential{})
		checkRefused(t, number, full)
	}
	for _, n := range []int{-1, greatest + 1, 1<<32 + 1, -1 << 32, math.MaxInt, math.MinInt} {
		for _, c := range withEach(n) {
			checkRefused(t, 1, c)
			checkRefused(t, greatest, c)
			checkRefused(t, 0, c)
		}
	}
}

var (
	older = api.Credential{Promised: 1, To: 2, Epoch: 3, News: 4}
	newer = api.Credential{Promised: 5, To: 6, Epoch: 7, News: 9}
)

func TestNewestRight(t *testing.T) {
	seventh, eighth := slotOf(7, older), slotOf(8, newer)
	checkNewest(t, "one, first", seventh+unwritten, older, 7, 0)
	checkNewest(t, "one, second", unwritten+seventh, older, 7, 28)
	checkNewest(t, "two, the second greater", seventh+eighth, newer, 8, 28)
	checkNewest(t, "two, the first greater", eighth+seventh, newer, 8, 0)
	checkNewest(t, "two of one number", seventh+slotOf(7, newer), older, 7, 0)
	checkNewest(t, "two of one number", slotOf(7, newer)+seventh, newer, 7, 0)
	checkNewest(t, "twice the same", seventh+seventh, older, 7, 0)
	checkNewest(t, "the least number", slotOf(1, api.Credential{})+unwritten, api.Credential{}, 1, 0)
	checkNewest(t, "numbers far apart", slotOf(1, older)+slotOf(greatest, newer), newer, greatest, 28)
	full := api.Credential{Promised: greatest, To: greatest, Epoch: greatest, News: greatest}
	checkNewest(t, "the greatest numbers", slotOf(greatest, full)+slotOf(greatest-1, older), full, greatest, 0)
}

func TestNewestReadsWhatEncodeWrites(t *testing.T) {
	for _, number := range []int{1, 2, 65536, greatest} {
		for _, n := range []int{0, 1, 1000, greatest} {
			for _, c := range withEach(n) {
				slot, e := slots.Encode(number, c)
				if e != api.OK {
					t.Fatalf("P3: Encode(%d, %+v): %d", number, c, e)
				}
				checkNewest(t, "first", slot+unwritten, c, number, 0)
				checkNewest(t, "second", unwritten+slot, c, number, 28)
			}
		}
	}
}

// TestNewestNotRight: a slot that is not right counts for nothing, in either place, though its number is the greater.
func TestNewestNotRight(t *testing.T) {
	example := slotOf(1, api.Credential{})
	wrong := map[string]string{
		"never written":              unwritten,
		"the number 0":               summed(0, 5, 6, 7, 9, 0),
		"the number ahead only":      summed(8, 5, 6, 7, 9, 0),
		"the number behind only":     summed(0, 5, 6, 7, 9, 8),
		"the greater number ahead":   summed(9, 5, 6, 7, 9, 8),
		"the greater number behind":  summed(8, 5, 6, 7, 9, 9),
		"no sum":                     slotOf(8, newer)[:24] + unwritten[:4],
		"the sum of another":         slotOf(8, newer)[:24] + slotOf(9, newer)[24:],
		"a sum that is not reduced":  example[:26] + "\xff\xf4", // 3 + 65521
		"the sum's halves exchanged": example[:24] + example[26:] + example[24:26],
		"all bits":                   strings.Repeat("\xff", api.SlotSize),
		"moved by one byte":          slotOf(8, newer)[1:] + "\x00",
	}
	right := slotOf(7, older)
	for what, slot := range wrong {
		checkNewest(t, what, slot+right, older, 7, 28)
		checkNewest(t, what, right+slot, older, 7, 0)
		checkNone(t, what+", alone", slot+unwritten)
		checkNone(t, what+", alone", unwritten+slot)
		checkNone(t, what+", twice", slot+slot)
	}
}

// TestNewestAnyBit: no bit of a slot may be another one: of the numbers, of a field, of the sum.
func TestNewestAnyBit(t *testing.T) {
	right := slotOf(7, older)
	for i := range api.SlotSize {
		for bit := range 8 {
			slot := []byte(slotOf(8, newer))
			slot[i] ^= 1 << bit
			checkNewest(t, "a bit of the first", string(slot)+right, older, 7, 28)
			checkNewest(t, "a bit of the second", right+string(slot), older, 7, 0)
			checkNone(t, "a bit of the only one", string(slot)+unwritten)
		}
	}
}

// TestNewestTorn: as far as a write came, the slot is what it was or the whole new one.
func TestNewestTorn(t *testing.T) {
	seventh, sixth, eighth := slotOf(7, older), slotOf(6, api.Credential{News: 3}), slotOf(8, newer)
	for laid := range api.SlotSize {
		checkNewest(t, "torn over an older one", seventh+eighth[:laid]+sixth[laid:], older, 7, 0)
		if eighth[laid:] != unwritten[laid:] {
			checkNewest(t, "torn over none", seventh+eighth[:laid]+unwritten[laid:], older, 7, 0)
		}
	}
	checkNewest(t, "whole", seventh+eighth, newer, 8, 28)
}

func TestNewestSizes(t *testing.T) {
	disk := slotOf(7, older) + slotOf(8, newer)
	long := disk + disk + disk
	for size := range len(long) + 1 {
		if size != len(disk) {
			checkNone(t, "not 56 bytes", long[:size])
		}
	}
	checkNone(t, "a great disk", strings.Repeat(disk, 1000))
	checkNewest(t, "56 bytes", long[:56], newer, 8, 28)
}

// TestNothingKept: the disk lies in memory of the test's own, so that writing into it or looking at it later would show.
func TestNothingKept(t *testing.T) {
	disk := slotOf(7, older) + slotOf(8, newer)
	memory := []byte(disk)
	lent := unsafe.String(&memory[0], len(memory))
	checkNewest(t, "P2: lent", lent, newer, 8, 28)
	if string(memory) != disk {
		t.Errorf("P2: Newest has written into the disk: %x, was %x", memory, disk)
	}
	clear(memory)
	checkNone(t, "P2: a disk that changed since", lent)
	checkNewest(t, "P2: another disk behind it", disk, newer, 8, 28)
}

// TestAnswersStay: what one call answered stays, whatever later calls are given.
func TestAnswersStay(t *testing.T) {
	first, _ := slots.Encode(7, older)
	copied := strings.Clone(first)
	slots.Encode(8, newer)
	slots.Encode(0, newer)
	slots.Newest(first + first)
	if first != copied {
		t.Errorf("P2: Encode's answer was %x and is now %x", copied, first)
	}
	checkEncoded(t, 7, older)
}

func FuzzEncode(f *testing.F) {
	f.Add(1, 0, 0, 0, 0)
	f.Add(0, 1, 2, 3, 4)
	f.Add(greatest, greatest, greatest, greatest, greatest)
	f.Add(math.MinInt, math.MaxInt, math.MinInt, math.MaxInt, -1)
	f.Fuzz(func(t *testing.T, number, promised, to, epoch, news int) {
		c := api.Credential{Promised: promised, To: to, Epoch: epoch, News: news}
		low, high := min(promised, to, epoch, news), max(promised, to, epoch, news)
		if number < 1 || number > greatest || low < 0 || high > greatest {
			checkRefused(t, number, c)
			return
		}
		checkEncoded(t, number, c)
	})
}

func FuzzNewest(f *testing.F) {
	f.Add("")
	f.Add(unwritten + unwritten)
	f.Add(slotOf(7, older) + slotOf(8, newer))
	f.Add(slotOf(8, newer)[:20] + unwritten[:8] + slotOf(7, older))
	f.Fuzz(func(t *testing.T, disk string) {
		c, number, at := slots.Newest(disk)
		if at == -1 {
			if c != (api.Credential{}) || number != 0 {
				t.Errorf("P4: none is right, yet %+v, %d", c, number)
			}
			return
		}
		if len(disk) != 56 || at != 0 && at != 28 || number < 1 || disk[at:at+28] != slotOf(number, c) {
			t.Errorf("P4: Newest(%x) = %+v, %d, %d", disk, c, number, at)
		}
	})
}
