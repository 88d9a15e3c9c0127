package ratio

import (
	"cmp"
	"math"
	"math/bits"
	"slices"

	"majordomo/api"
)

// limbBits is how many bits a limb has.
const limbBits = 32

// natural returns a number by limbs.
func natural(n uint64) api.Nat {
	return trim(api.Nat{uint32(n), uint32(n >> limbBits)})
}

// limb returns the limb of a number at a place, 0 where the number has ended.
func limb(a api.Nat, place int) uint32 {
	if place < len(a) {
		return a[place]
	}
	return 0
}

// trim returns a number without the limbs 0 at its end.
func trim(a api.Nat) api.Nat {
	n := len(a)
	for n > 0 && a[n-1] == 0 {
		n--
	}
	return a[:n]
}

func compare(a, b api.Nat) int {
	if len(a) != len(b) {
		return cmp.Compare(len(a), len(b))
	}
	for i := len(a) - 1; i >= 0; i-- {
		if a[i] != b[i] {
			return cmp.Compare(a[i], b[i])
		}
	}
	return 0
}

func add(a, b api.Nat) api.Nat {
	both := make(api.Nat, max(len(a), len(b))+1)
	copy(both, a)
	addTimes(both, b, 1)
	return trim(both)
}

// subtract returns a - b; b is not greater than a.
func subtract(a, b api.Nat) api.Nat {
	rest := slices.Clone(a)
	takeTimes(rest, b, 1)
	return trim(rest)
}

func multiply(a, b api.Nat) api.Nat {
	all := make(api.Nat, len(a)+len(b))
	for i, times := range a {
		addTimes(all[i:i+len(b)+1], b, times)
	}
	return trim(all)
}

// divide returns the quotient and the remainder of two numbers; b is not 0.
func divide(a, b api.Nat) (whole, rest api.Nat) {
	n := len(b)
	// With a highest limb of b of at least 2^31 the guesses of takeAll are good.
	up := bits.LeadingZeros32(b[n-1])
	rest, b = raise(a, up), raise(b, up)[:n]
	whole = make(api.Nat, max(len(a)-n+1, 0))
	for i := len(whole) - 1; i >= 0; i-- {
		whole[i] = takeAll(rest[i:i+n+1], b)
	}
	return trim(whole), lower(rest, up)
}

// divisor returns the greatest number that divides both; b is not 0.
func divisor(a, b api.Nat) api.Nat {
	_, a = divide(a, b)
	b = slices.Clone(b)
	if len(a) == 0 {
		return b
	}
	// What is left is done without divisions: of two odd numbers the difference is even, and no divisor of both is.
	twos := min(zeros(a), zeros(b))
	a, b = lower(a, zeros(a)), lower(b, zeros(b))
	for compare(a, b) != 0 {
		if compare(a, b) > 0 {
			a, b = b, a
		}
		takeTimes(b, a, 1)
		b = lower(b, zeros(b))
	}
	return trim(raise(a, twos))
}

// takeAll takes b from r as often as it can be taken, and returns how often that was. The highest limb of b is at least 2^31; r has one limb more, and is less than 2^32 times b.
func takeAll(r, b api.Nat) uint32 {
	n := len(b)
	highest := uint64(r[n])<<limbBits | uint64(r[n-1])
	times := uint32(min(highest/uint64(b[n-1]), math.MaxUint32))
	for owed := takeTimes(r, b, times); owed > 0; times-- { // the guess may be too great, by 2 at most
		owed -= addTimes(r, b, 1)
	}
	return times
}

// addTimes adds b so many times to r, and returns what does not fit into r.
func addTimes(r, b api.Nat, times uint32) uint32 {
	carry := uint64(0)
	for i := range r {
		carry += uint64(r[i]) + uint64(times)*uint64(limb(b, i))
		r[i] = uint32(carry)
		carry >>= limbBits
	}
	return uint32(carry)
}

// takeTimes takes b so many times from r, and returns what r still owes.
func takeTimes(r, b api.Nat, times uint32) uint32 {
	owed := uint64(0)
	for i := range r {
		owed += uint64(times) * uint64(limb(b, i))
		low := uint32(owed)
		owed >>= limbBits
		if r[i] < low {
			owed++
		}
		r[i] -= low
	}
	return uint32(owed)
}

// zeros returns how many bits 0 a number, which is not 0, has below its lowest bit 1.
func zeros(a api.Nat) int {
	n := 0
	for a[n] == 0 {
		n++
	}
	return n*limbBits + bits.TrailingZeros32(a[n])
}

// raise returns a number with its bits moved up; its highest limb may be 0.
func raise(a api.Nat, up int) api.Nat {
	limbs, rest := up/limbBits, up%limbBits
	raised := make(api.Nat, limbs+len(a)+1)
	for i, x := range a {
		wide := uint64(x) << rest
		raised[limbs+i] |= uint32(wide)
		raised[limbs+i+1] = uint32(wide >> limbBits)
	}
	return raised
}

// lower moves the bits of a number down in place, and returns what is left of it.
func lower(a api.Nat, down int) api.Nat {
	a = a[down/limbBits:]
	down %= limbBits
	for i := range a {
		a[i] = a[i]>>down | limb(a, i+1)<<(limbBits-down)
	}
	return trim(a)
}
