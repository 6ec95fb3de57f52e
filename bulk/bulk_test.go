package bulk_test

import (
	"strings"
	"testing"

	"zafra/api"
	"zafra/bulk"
)

func TestP1_1_Name(t *testing.T) {
	for _, s := range []string{"a", "z", "cane", "z9", "a0", "m00000000z", "abcdefghij"} {
		if !bulk.Name(s) {
			t.Errorf("Name(%q) = false", s)
		}
	}
	bad := []string{"", "0", "9a", "A", "aB", "Z", "cane ", " cane", "a-b", "a_", "a\n", "a\x00", "abcdefghijk",
		strings.Repeat("a", 1000), "é", "aé", "a\xff", "a/", "a:", "a`", "a{", "`", "{"}
	for _, s := range bad {
		if bulk.Name(s) {
			t.Errorf("Name(%q) = true", s)
		}
	}
}

// TestP1_1_NameBytes tries each byte at the beginning of a name and behind it.
func TestP1_1_NameBytes(t *testing.T) {
	const letters, digits = "abcdefghijklmnopqrstuvwxyz", "0123456789"
	for b := range 256 {
		s := string([]byte{byte(b)})
		first, later := strings.Contains(letters, s), strings.Contains(letters+digits, s)
		if bulk.Name(s) != first || bulk.Name("a"+s) != later || bulk.Name("a"+s+"z") != later {
			t.Errorf("Name of %q", s)
		}
	}
}

func TestP1_1_CheckOK(t *testing.T) {
	full := plant(bulk.MaxUnits)
	for i := range bulk.MaxFlows {
		full.Flows = append(full.Flows, flow(i%7, 7))
	}
	const most = api.MaxMass
	for i, p := range []bulk.Plant{
		chapterMill(), openMill(), clashMill(), full, plant(1), plant(bulk.MaxUnits),
		plant(2, flow(0, 1), flow(1, bulk.Outside), flow(bulk.Outside, 0)),
		plant(2, seen(0, 1), seen(1, 0, most, most, most, most)),
		plant(2, bulk.Flow{From: 0, To: 1, Mass: bulk.Masses{-1, most + 1, -1 << 63, 1<<63 - 1}}),
	} {
		if e := bulk.Check(p); e != api.OK {
			t.Errorf("Check of plant %d = %d", i, e)
		}
	}
}

func TestP1_1_CheckErrors(t *testing.T) {
	for i, x := range badPlants() {
		if e := bulk.Check(x.plant); e != x.want {
			t.Errorf("Check of plant %d = %d, want %d", i, e, x.want)
		}
	}
}

// TestP1_1_CheckMasses tries the bounds of a measured mass for each kind.
func TestP1_1_CheckMasses(t *testing.T) {
	for kind := range 4 {
		for n, want := range map[int]api.Errno{
			-1 << 63: api.ErrRange, -1: api.ErrRange, 0: api.OK, api.MaxMass: api.OK,
			api.MaxMass + 1: api.ErrRange, 1<<63 - 1: api.ErrRange,
		} {
			f := seen(0, 1)
			f.Mass[kind] = n
			if e := bulk.Check(plant(2, f)); e != want {
				t.Errorf("Check with %d of the kind %d = %d, want %d", n, kind, e, want)
			}
		}
	}
}

func TestLimits(t *testing.T) {
	got := []int{bulk.MaxUnits, bulk.MaxFlows, bulk.Outside, bulk.MaxSum, bulk.Measured, bulk.Found, bulk.Open}
	for i, want := range []int{8, 20, -1, 1000000000000, 1, 2, 3} {
		if got[i] != want {
			t.Errorf("constant %d is %d, want %d", i, got[i], want)
		}
	}
}
