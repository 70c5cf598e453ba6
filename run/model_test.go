package run

import (
	"slices"
	"strings"
	"testing"

	"ferry/api"
	"ferry/guest"
	"ferry/step"
)

// chance hands out numbers by a simple rule.
type chance uint64

func (c *chance) next() uint32 {
	*c = *c*6364136223846793005 + 1442695040888963407
	return uint32(*c >> 32)
}

func (c *chance) below(n uint32) uint32 { return c.next() % n }

func oneOf[T any](c *chance, all ...T) T { return all[c.below(uint32(len(all)))] }

// program is lines by chance, most of which go on; branches go but a few lines far.
func (c *chance) program() string {
	var lines []string
	for range 24 {
		lines = append(lines, oneOf(c, "addiu $2, $2, 1", "addu $3, $3, $2", "sw $3, 8192($0)", "lw $4, 8192($0)", "xor $5, $5, $4",
			"ll $4, 8196($0)", "sc $3, 8196($0)", "mult $2, $3", "mflo $5", "beq $0, $0, 2", "bne $2, $3, 3", "bgez $5, -6", "bltz $5, 2", "jal 1030",
			"nop", "nop", "nop", "addiu $6, $6, 255"))
	}
	lines[c.below(24)] = oneOf(c, "syscall 5", "break 6", "teq $0, $0", "add $7, $7, $7", "lw $2, 1($0)", "sh $2, 0($0)", ".word 0xfc000000", "jr $2", "nop")
	return strings.Join(lines, "\n")
}

// trail is what a program comes to behind each count of instructions, up to an event of one that is not done, or to more than the tests' fuel; events[n] is what instruction n ended with.
type trail struct {
	cpus     []api.Cpu
	memories []api.Guest
	events   []api.Event
}

func trailOf(c api.Cpu, g api.Guest) (tr trail) {
	for {
		tr.cpus, tr.memories = append(tr.cpus, c), append(tr.memories, g)
		var e api.Event
		c, g, e = step.Step(c, g)
		tr.events = append(tr.events, e)
		if e.Kind != api.EvNone && e.Kind != api.EvCall || len(tr.cpus) > 200 {
			return tr
		}
	}
}

// end is where a run of so much fuel ends on the trail: how many instructions are done, and its event.
func (tr trail) end(fuel int, stops []uint32) (int, api.Event) {
	for n, c := range tr.cpus {
		if n > 0 && tr.events[n-1].Kind == api.EvCall {
			return n, tr.events[n-1]
		}
		if !c.Slot && slices.Contains(stops, c.Pc) {
			return n, api.Event{Kind: api.EvStop, At: c.Pc}
		}
		if n == fuel {
			return n, api.Event{Kind: api.EvFuel}
		}
		if e := tr.events[n]; e.Kind != api.EvNone && e.Kind != api.EvCall {
			return n, e
		}
	}
	panic("the trail is shorter than the fuel")
}

// P12.1, P12.2, P12.3: programs by chance, with any fuel and stops, against the trail that their instructions make.
func TestRunAgainstTrail(t *testing.T) {
	c := chance(12)
	kinds := map[int]int{}
	parts, slots := 0, 0
	for range 300 {
		g := coded(t, c.program())
		p := cpu(codeAt+4*c.below(6), 2, c.below(3), 3, c.below(3), 7, 1<<30)
		tr := trailOf(p, g)
		for range 6 {
			fuel := int(oneOf(&c, c.below(4), c.below(20), c.below(200)))
			var stops []uint32
			for range c.below(3) {
				stops = append(stops, codeAt+4*c.below(40))
			}
			n, want := tr.end(fuel, stops)
			comesTo(t, tr, n, want, fuel, stops)
			kinds[want.Kind]++
			if n == 0 {
				continue
			}
			first := int(c.below(uint32(n))) // less than what is done, and so it ends with EvFuel
			inParts(t, p, g, first, fuel-first, stops)
			parts++
			if tr.cpus[first].Slot {
				slots++
			}
		}
		if t.Failed() {
			t.FailNow()
		}
	}
	for _, kind := range []int{api.EvCall, api.EvBreak, api.EvTrap, api.EvOver, api.EvAlign, api.EvFault, api.EvNoIns, api.EvStop, api.EvFuel} {
		if kinds[kind] < 5 {
			t.Errorf("of kind %d only %d came", kind, kinds[kind])
		}
	}
	if parts < 100 || slots < 10 {
		t.Errorf("only %d in parts, %d of them at a slot", parts, slots)
	}
}

// comesTo holds that a run ends behind n instructions of a trail, with an event, that much fuel less; and that those of its stops that are not come to change nothing.
func comesTo(t *testing.T, tr trail, n int, want api.Event, fuel int, stops []uint32) {
	t.Helper()
	c, g, e, left := Run(tr.cpus[0], tr.memories[0], fuel, stops)
	if c != tr.cpus[n] || !guest.Same(g, tr.memories[n]) || e != want || left != fuel-n {
		t.Fatalf("fuel %d, stops %v: %+v, %d left, %+v; want %+v, %d left, %+v", fuel, stops, e, left, c, want, fuel-n, tr.cpus[n])
	}
	if left > fuel {
		t.Fatalf("the fuel has risen from %d to %d", fuel, left)
	}
	var met []uint32
	if want.Kind == api.EvStop {
		met = []uint32{want.At}
	}
	otherCpu, otherGuest, other, otherLeft := Run(tr.cpus[0], tr.memories[0], fuel, met)
	if otherCpu != c || !guest.Same(otherGuest, g) || other != e || otherLeft != left {
		t.Fatalf("fuel %d, without stops that are not come to: %+v, %d left; want %+v, %d left", fuel, other, otherLeft, e, left)
	}
}
