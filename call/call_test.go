package call

import (
	"math"
	"testing"

	"turnkey/api"
)

// greatest is written out by hand, so that Check isn't held against Most alone.
var greatest = api.Call{63, 3, 65535, 65535, 65535}

func TestMostOfEachField(t *testing.T) {
	for field, want := range greatest {
		if got := Most(field); got != want {
			t.Errorf("Most(%d) = %d, want %d", field, got, want)
		}
	}
}

func TestMostOfFieldsThatNoCallHas(t *testing.T) {
	for _, field := range []int{api.Fields, api.Fields + 1, 9, 64, math.MaxInt, -1, -2, -api.Fields, math.MinInt} {
		if got := Most(field); got != api.MaxArg {
			t.Errorf("Most(%d) = %d, want %d", field, got, api.MaxArg)
		}
	}
}

func TestCheckLetsThrough(t *testing.T) {
	calls := []api.Call{{}, greatest, {3, 0, 4, 0, 0}, {62, 2, 65534, 1, 32768}}
	for field, most := range greatest {
		var one api.Call
		one[field] = most
		calls = append(calls, one)
	}
	for _, c := range calls {
		if got := Check(c); got != api.OK {
			t.Errorf("Check(%v) = %d, want OK", c, got)
		}
	}
}

func TestCheckRefusesEachField(t *testing.T) {
	for field, most := range greatest {
		for _, wrong := range []int{most + 1, -1, math.MaxInt, math.MinInt} {
			for _, c := range []api.Call{{}, greatest} {
				c[field] = wrong
				if got := Check(c); got != api.ErrRange {
					t.Errorf("Check(%v) = %d, want ErrRange", c, got)
				}
			}
		}
	}
}

func TestCheckRefusesSeveralFields(t *testing.T) {
	for _, c := range []api.Call{{64, 4, 65536, 65536, 65536}, {-1, -1, -1, -1, -1}, {-1, 4}, {0, 0, 65536, 0, -1}} {
		if got := Check(c); got != api.ErrRange {
			t.Errorf("Check(%v) = %d, want ErrRange", c, got)
		}
	}
}
