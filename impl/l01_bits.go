package impl

// maxWidth is the greatest number of bits that are turned round.
const maxWidth = 16

// keyWidth is one less than maxWidth: the bit that is left tells ItemKeys from MarkKeys.
const keyWidth = 15

const hashStart = 5
const hashFactor = 257
const hashPrime = 65521

// refused is the one fixed answer where something is out of range.
const refused = -1

// number is an int64 that is looked at bit by bit.
type number int64

// fits must not be asked with a width below 0: no shift goes by less than nothing.
func (n number) fits(width int64) bool { return 0 <= n && n < 1<<width }

func (n number) bitAt(place int64) number { return n >> place & 1 }

func (n number) asMark() number { return 2 * n }

func (n number) asItem() number { return 2*n + 1 }

// highestBit is for numbers from 1 to 32767: far above them the doubling would not end.
func (n number) highestBit() number {
	top := number(1)
	for 2*top <= n {
		top *= 2
	}
	return top
}

// gathered puts the bit told for place 0 highest, so that bits told from the lowest on come out turned round.
func gathered(width int64, bitAt func(place int64) number) number {
	sum := number(0)
	for place := range width {
		sum = 2*sum + bitAt(place)
	}
	return sum
}

// Turned is the lowest bits of n in the other order.
func Turned(n int64, bits int64) int64 {
	if bits < 1 || bits > maxWidth || !number(n).fits(bits) {
		return refused
	}
	return int64(gathered(bits, number(n).bitAt))
}

// Hash goes along the bytes of s, not its runes: texts are bytes.
func Hash(s string) int64 {
	h := int64(hashStart)
	for i := range len(s) {
		h = (hashFactor*h + int64(s[i]) + 1) % hashPrime
	}
	return h % (1 << keyWidth)
}

// keyOf leaves the range to Turned, which refuses just what has no key.
func keyOf(n int64, kind func(number) number) int64 {
	turned := Turned(n, keyWidth)
	if turned == refused {
		return refused
	}
	return int64(kind(number(turned)))
}

// ItemKey is the odd key of what has the hash h.
func ItemKey(h int64) int64 { return keyOf(h, number.asItem) }

// MarkKey is the even key of door b.
func MarkKey(b int64) int64 { return keyOf(b, number.asMark) }

// ParentOf is the door that b was split from.
func ParentOf(b int64) int64 {
	if b < 1 || !number(b).fits(keyWidth) {
		return refused
	}
	return b - int64(number(b).highestBit())
}
