package value

import (
	"math/bits"

	"shuck/api"
)

func ofNumber(v api.Value, reckon func(int) int) (api.Value, string, int) {
	if v.Kind != api.VNumber {
		return throw("TypeError: number")
	}
	return number(reckon(v.Num))
}

// ofNumbers is what is reckoned of two numbers; reckon tells also whether that is exact.
func ofNumbers(a, b api.Value, reckon func(a, b int) (int, bool)) (api.Value, string, int) {
	if a.Kind != api.VNumber || b.Kind != api.VNumber {
		return throw("TypeError: number")
	}
	n, ok := reckon(a.Num, b.Num)
	if !ok {
		return fail(api.FaultInexact)
	}
	return number(n)
}

func opposite(n int) int { return -n }

func turned(n int) int { return int(^signed(n)) }

func sum(a, b int) (int, bool) { return exact(a + b) }

func difference(a, b int) (int, bool) { return exact(a - b) }

// product is made of both sizes in twice 64 digits: in 64, what is far beyond the ends would wrap, and might come back.
func product(a, b int) (int, bool) {
	high, low := bits.Mul64(size(a), size(b))
	return a * b, high == 0 && low <= api.MaxNumber
}

func rest(a, b int) (int, bool) {
	if b == 0 {
		return 0, false
	}
	return a % b, true
}

func and(a, b int) (int, bool) { return int(signed(a) & signed(b)), true }

func or(a, b int) (int, bool) { return int(signed(a) | signed(b)), true }

func either(a, b int) (int, bool) { return int(signed(a) ^ signed(b)), true }

func left(a, b int) (int, bool) { return int(signed(a) << places(b)), true }

func right(a, b int) (int, bool) { return int(signed(a) >> places(b)), true }

func rightWithNoughts(a, b int) (int, bool) { return int(uint32(a) >> places(b)), true }

func exact(n int) (int, bool) { return n, size(n) <= api.MaxNumber }

func size(n int) uint64 { return uint64(max(n, -n)) }

// signed is the lowest 32 binary digits of a number, with the highest of them as its sign.
func signed(n int) int32 { return int32(n) }

// places is by how many digits a number shifts.
func places(n int) int { return n & 31 }
