// Package slots: what a peer keeps, in two slots of a disk: see DOC.md.
package slots

import (
	"iter"
	"math"

	"hustings/api"
)

const (
	numberSize = 4
	diskSize   = 2 * api.SlotSize
	sumModulus = 65521
)

// Encode writes a slot (P3).
func Encode(number int, c api.Credential) (string, api.Errno) {
	if number == 0 || !fit(number, c.Promised, c.To, c.Epoch, c.News) {
		return "", api.ErrArg
	}
	return write(number, c.Promised, c.To, c.Epoch, c.News, number), api.OK
}

// Newest reads a disk (P4).
func Newest(disk string) (api.Credential, int, int) {
	newest, number, place := api.Credential{}, 0, -1
	if len(disk) != diskSize {
		return newest, number, place
	}
	for at, slot := range each(disk) {
		// Only a greater number takes the place, so that of two equal ones the first stays.
		if c, n, right := read(slot); right && n > number {
			newest, number, place = c, n, at
		}
	}
	return newest, number, place
}

// each goes through the slots of a disk, each with where it begins.
func each(disk string) iter.Seq2[int, string] {
	return func(yield func(int, string) bool) {
		for at := 0; at+api.SlotSize <= len(disk); at += api.SlotSize {
			if !yield(at, disk[at:at+api.SlotSize]) {
				return
			}
		}
	}
}

// read takes a slot apart. Whether it is right is asked of Encode itself, so that the two can't disagree.
func read(slot string) (api.Credential, int, bool) {
	number := numberAt(slot, 0)
	c := api.Credential{
		Promised: numberAt(slot, 1),
		To:       numberAt(slot, 2),
		Epoch:    numberAt(slot, 3),
		News:     numberAt(slot, 4),
	}
	again, err := Encode(number, c)
	return c, number, err == api.OK && again == slot
}

// fit: whether each of the numbers has room in its four bytes.
func fit(numbers ...int) bool {
	for _, n := range numbers {
		if n < 0 || n > math.MaxUint32 {
			return false
		}
	}
	return true
}

// write lays the numbers one behind the other, and their sum behind them.
func write(numbers ...int) string {
	slot := make([]byte, 0, api.SlotSize)
	for _, n := range numbers {
		slot = appendNumber(slot, uint32(n))
	}
	return string(appendNumber(slot, sum(slot)))
}

func appendNumber(slot []byte, n uint32) []byte {
	return append(slot, byte(n>>24), byte(n>>16), byte(n>>8), byte(n))
}

// numberAt is the i-th number of a slot.
func numberAt(slot string, i int) int {
	n := uint32(0)
	for _, b := range []byte(slot[i*numberSize : (i+1)*numberSize]) {
		n = n<<8 | uint32(b)
	}
	return int(n)
}

func sum(data []byte) uint32 {
	a, b := uint32(1), uint32(0)
	for _, x := range data {
		a = (a + uint32(x)) % sumModulus
		b = (b + a) % sumModulus
	}
	return b<<16 | a
}
