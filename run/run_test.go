package run

import (
	"math"
	"slices"
	"strings"
	"testing"

	"ferry/api"
	"ferry/asm"
	"ferry/gmem"
	"ferry/guest"
	"ferry/step"
)

const (
	size   = 4096
	codeAt = 1 * size // where the tests' instructions are
	dataAt = 2 * size // may be read and written
	most   = 3000     // instructions of a run

	loop = "addiu $2, $2, 1\nj 1024\nnop" // the chapter's example
)

// coded is a memory with a text's instructions (nop is the one whose word is 0), and nothing behind them but nop; the page behind theirs has bytes for loads and stores.
func coded(t *testing.T, text string) api.Guest {
	t.Helper()
	code, line, e := asm.Assemble(strings.ReplaceAll(text, "nop", "sll $0, $0, 0") + "\n")
	if e != api.OK {
		t.Fatalf("%q: line %d: %v", text, line, e)
	}
	g, _ := guest.Map(api.Guest{}, codeAt/size, 1, 5)
	g, _ = guest.Map(g, dataAt/size, 1, 3)
	g, f := gmem.Poke(g, codeAt, code)
	if f != (api.Fault{}) {
		t.Fatalf("%q: %+v", text, f)
	}
	return g
}

// cpu is a processor at an address, with numbers in registers (a register, its number, and so on).
func cpu(pc uint32, regs ...uint32) api.Cpu {
	c := api.Cpu{Pc: pc, Next: pc + 4}
	for n := 0; n+1 < len(regs); n += 2 {
		c.R[regs[n]] = regs[n+1]
	}
	return c
}

// cloned is a memory of the test's own.
func cloned(g api.Guest) api.Guest {
	return api.Guest{
		Host:  api.Host{Maps: slices.Clone(g.Host.Maps), Cells: slices.Clone(g.Host.Cells)},
		Base:  g.Base,
		Pages: slices.Clone(g.Pages),
	}
}

// scribble changes all that a memory's lists have room for.
func scribble(g api.Guest) {
	clear(g.Host.Maps[:cap(g.Host.Maps)])
	clear(g.Host.Cells[:cap(g.Host.Cells)])
	clear(g.Pages[:cap(g.Pages)])
}

// stepped is what n instructions come to, done by hand; each of them must be done.
func stepped(t *testing.T, c api.Cpu, g api.Guest, n int) (api.Cpu, api.Guest) {
	t.Helper()
	for k := range n {
		var e api.Event
		if c, g, e = step.Step(c, g); e.Kind != api.EvNone && e.Kind != api.EvCall {
			t.Fatalf("the test's own instruction %d: %+v", k, e)
		}
	}
	return c, g
}

// comes holds that a run does n instructions and ends with an event, that much fuel left, and leaves what it was given.
func comes(t *testing.T, what string, c api.Cpu, g api.Guest, fuel int, stops []uint32, n int, want api.Event, left int) {
	t.Helper()
	given, givenStops := cloned(g), slices.Clone(stops)
	wantCpu, wantGuest := stepped(t, c, g, n)
	gotCpu, gotGuest, got, gotLeft := Run(c, g, fuel, stops)
	if got != want {
		t.Errorf("%s: event %+v; want %+v", what, got, want)
	}
	if gotLeft != left {
		t.Errorf("%s: %d left; want %d", what, gotLeft, left)
	}
	if gotCpu != wantCpu {
		t.Errorf("%s: %+v; want %+v", what, gotCpu, wantCpu)
	}
	if !guest.Same(gotGuest, wantGuest) {
		t.Errorf("%s: the memory is not as it should be", what)
	}
	if !guest.Same(g, given) || !slices.Equal(stops, givenStops) {
		t.Errorf("%s: what was given has changed", what)
	}
}

func stop(at uint32) api.Event { return api.Event{Kind: api.EvStop, At: at} }

func empty() api.Event { return api.Event{Kind: api.EvFuel} }

// P12.1: the chapter's example.
func TestExample(t *testing.T) {
	g := coded(t, loop)
	c, _, e, left := Run(cpu(codeAt), g, 7, nil)
	if e != empty() || left != 0 || c.R[2] != 3 {
		t.Errorf("%+v, %d left, register 2 is %d", e, left, c.R[2])
	}
	comes(t, "the example", cpu(codeAt), g, 7, nil, 7, empty(), 0)
}

// P12.1: EvFuel just when no fuel is left; fuel below 0 is none, above MaxFuel it is MaxFuel.
func TestFuel(t *testing.T) {
	g := coded(t, loop)
	for _, one := range []struct{ fuel, done int }{
		{math.MinInt, 0}, {-1 << 32, 0}, {-3000, 0}, {-1, 0}, {0, 0}, {1, 1}, {2, 2}, {3, 3}, {4, 4}, {100, 100},
		{most - 1, most - 1}, {most, most}, {most + 1, most}, {2 * most, most}, {1 << 32, most}, {1<<32 + 1, most}, {math.MaxInt, most},
	} {
		comes(t, "the loop", cpu(codeAt), g, one.fuel, nil, one.done, empty(), 0)
	}
}

// P12.1: what is left of the fuel counts from MaxFuel, where there was more, and from 0, where there was less.
func TestFuelLeftOfEdges(t *testing.T) {
	g := coded(t, "nop\nnop\nbreak 5")
	broke := api.Event{Kind: api.EvBreak, Code: 5}
	for _, one := range []struct {
		fuel, done int
		e          api.Event
		left       int
	}{
		{-1, 0, empty(), 0}, {0, 0, empty(), 0}, {1, 1, empty(), 0}, {2, 2, empty(), 0},
		{3, 2, broke, 1}, {4, 2, broke, 2}, {most - 1, 2, broke, most - 3}, {most, 2, broke, most - 2}, {most + 1, 2, broke, most - 2}, {math.MaxInt, 2, broke, most - 2},
	} {
		comes(t, "break", cpu(codeAt), g, one.fuel, nil, one.done, one.e, one.left)
	}
	comes(t, "a stop at once", cpu(codeAt), g, math.MaxInt, []uint32{codeAt}, 0, stop(codeAt), most)
	comes(t, "a stop at once", cpu(codeAt), g, math.MinInt, []uint32{codeAt}, 0, stop(codeAt), 0)
}

// P12.1: each event that ends a run, behind two instructions that are done: none takes fuel but EvCall, behind which it has gone on.
func TestEvents(t *testing.T) {
	for _, one := range []struct {
		text string
		e    api.Event
		call int
	}{
		{"lw $5, 8193($0)", api.Event{Kind: api.EvAlign, At: dataAt + 1}, 0},
		{"lw $5, 0($0)", api.Event{Kind: api.EvFault, Fault: api.Fault{Kind: api.FtThere}}, 0},
		{"sw $5, 4096($0)", api.Event{Kind: api.EvFault, Fault: api.Fault{Kind: api.FtRight, At: codeAt}}, 0},
		{".word 0xffffffff", api.Event{Kind: api.EvNoIns, Code: 0xffffffff}, 0},
		{"add $5, $6, $6", api.Event{Kind: api.EvOver}, 0},
		{"teq $0, $0", api.Event{Kind: api.EvTrap}, 0},
		{"break 77", api.Event{Kind: api.EvBreak, Code: 77}, 0},
		{"syscall 99", api.Event{Kind: api.EvCall, Code: 99}, 1},
		{"syscall", api.Event{Kind: api.EvCall}, 1},
	} {
		c := cpu(codeAt, 6, 1<<31-1)
		g := coded(t, "addiu $2, $2, 1\nsw $2, 8192($0)\n"+one.text+"\naddiu $2, $2, 1")
		comes(t, one.text, c, g, 10, nil, 2+one.call, one.e, 8-one.call)
		comes(t, one.text+", with just enough", c, g, 3, nil, 2+one.call, one.e, 1-one.call)
		comes(t, one.text+", not come to", c, g, 2, nil, 2, empty(), 0)
		comes(t, one.text+", at a stop", c, g, 3, []uint32{codeAt + 8}, 2, stop(codeAt+8), 1)
		at := cpu(codeAt+8, 6, 1<<31-1)
		comes(t, one.text+", at once", at, g, 1, nil, one.call, one.e, 1-one.call)
		comes(t, one.text+", without fuel", at, g, 0, nil, 0, empty(), 0)
	}
}

// P12.1: a run goes on behind EvCall, with the fuel that is left; behind another event it ends so again.
func TestGoingOn(t *testing.T) {
	g := coded(t, "syscall 1\nsyscall 2\nnop\nbreak")
	c, g, e, left := Run(cpu(codeAt), g, 9, nil)
	if e != (api.Event{Kind: api.EvCall, Code: 1}) || left != 8 {
		t.Errorf("the first: %+v, %d left", e, left)
	}
	comes(t, "the second", c, g, left, nil, 1, api.Event{Kind: api.EvCall, Code: 2}, 7)
	c, g = stepped(t, c, g, 1)
	comes(t, "break", c, g, 7, nil, 1, api.Event{Kind: api.EvBreak}, 6)
	c, g, _, left = Run(c, g, 7, nil)
	comes(t, "break again", c, g, left, nil, 0, api.Event{Kind: api.EvBreak}, 6)
}

// P12.1: events of the fetch: a jump to an address that is no multiple of 4, and to a page that is not there, or may not be run.
func TestFetchEvents(t *testing.T) {
	g := coded(t, "jr $4\nnop")
	for _, one := range []struct {
		to uint32
		e  api.Event
	}{
		{codeAt + 2, api.Event{Kind: api.EvAlign, At: codeAt + 2}},
		{0, api.Event{Kind: api.EvFault, Fault: api.Fault{Kind: api.FtThere}}},
		{dataAt, api.Event{Kind: api.EvFault, Fault: api.Fault{Kind: api.FtRight, At: dataAt}}},
	} {
		c := cpu(codeAt, 4, one.to)
		comes(t, "jr", c, g, 5, nil, 2, one.e, 3)
		comes(t, "jr without fuel for more", c, g, 2, nil, 2, empty(), 0)
		comes(t, "jr to a stop", c, g, 5, []uint32{one.to}, 2, stop(one.to), 3)
	}
	comes(t, "past the page", cpu(codeAt), coded(t, "nop"), most, nil, 1024, api.Event{Kind: api.EvFault, Fault: api.Fault{Kind: api.FtRight, At: dataAt}}, most-1024)
}

// P12.1: an instruction in a slot that ends with an event does so though it has no stop.
func TestEventsInSlots(t *testing.T) {
	g := coded(t, "j 1030\nbreak 3")
	comes(t, "break", cpu(codeAt), g, 5, []uint32{codeAt + 4}, 1, api.Event{Kind: api.EvBreak, Code: 3}, 4)
	g = coded(t, "j 1030\nsyscall 4")
	comes(t, "syscall", cpu(codeAt), g, 5, []uint32{codeAt + 4, 4120}, 2, api.Event{Kind: api.EvCall, Code: 4}, 3)
	g = coded(t, "j 1030\nj 1024")
	comes(t, "j", cpu(codeAt), g, 5, nil, 1, api.Event{Kind: api.EvNoIns, Code: 0x08000400}, 4)
}

// P12.1: a stop at the very first instruction, at each one behind it, and one that is never come to; no stops.
func TestStops(t *testing.T) {
	g := coded(t, loop)
	none := [][]uint32{nil, {}, {codeAt + 12}, {codeAt - 4, codeAt + 1, codeAt + 2, codeAt + 3, 0, 1<<32 - 4}}
	for _, stops := range none {
		comes(t, "no stop is come to", cpu(codeAt), g, 8, stops, 8, empty(), 0)
	}
	comes(t, "the first", cpu(codeAt), g, 8, []uint32{codeAt}, 0, stop(codeAt), 8)
	comes(t, "the second", cpu(codeAt), g, 8, []uint32{codeAt + 4}, 1, stop(codeAt+4), 7)
	comes(t, "the second, told behind others", cpu(codeAt), g, 8, []uint32{9, 5, codeAt + 4, codeAt + 4, codeAt + 12}, 1, stop(codeAt+4), 7)
	comes(t, "the first that is come to", cpu(codeAt), g, 8, []uint32{codeAt + 4, codeAt}, 0, stop(codeAt), 8)
	comes(t, "a stop from the slot on", api.Cpu{Pc: codeAt + 8, Next: codeAt, Slot: true}, g, 8, []uint32{codeAt}, 1, stop(codeAt), 7)
	comes(t, "an address where nothing is", cpu(0), g, 8, []uint32{0}, 0, stop(0), 8)
	comes(t, "an address that is no multiple", cpu(codeAt+1), g, 8, []uint32{codeAt + 1}, 0, stop(codeAt+1), 8)
	comes(t, "the last address", cpu(1<<32-1), g, 8, []uint32{1<<32 - 1}, 0, stop(1<<32-1), 8)
	comes(t, "all memory empty", cpu(codeAt), api.Guest{}, 8, []uint32{codeAt}, 0, stop(codeAt), 8)
}

// P12.1: there is no stop at a slot, but at the same instruction when it is none.
func TestStopsAtSlots(t *testing.T) {
	g := coded(t, loop)
	slot := []uint32{codeAt + 8}
	comes(t, "the loop", cpu(codeAt), g, 20, slot, 20, empty(), 0)
	comes(t, "at the slot", api.Cpu{Pc: codeAt + 8, Next: codeAt, Slot: true}, g, 7, slot, 7, empty(), 0)
	comes(t, "no slot", cpu(codeAt+8), g, 7, slot, 0, stop(codeAt+8), 7)
	g = coded(t, "bne $0, $0, 5\naddiu $2, $0, 1\nnop")
	comes(t, "a branch that does not go", cpu(codeAt), g, 7, []uint32{codeAt + 4, codeAt + 8}, 2, stop(codeAt+8), 5)
	comes(t, "into the slot", cpu(codeAt+4), g, 7, []uint32{codeAt + 4}, 0, stop(codeAt+4), 7)
	g = coded(t, "j 1025\naddiu $2, $2, 1\nnop")
	comes(t, "a branch to its slot", cpu(codeAt), g, 7, []uint32{codeAt + 4}, 2, stop(codeAt+4), 5)
}

// P12.1: EvStop is ahead of EvFuel where both hold; in a slot there is EvFuel.
func TestStopAheadOfFuel(t *testing.T) {
	g := coded(t, loop)
	for _, fuel := range []int{math.MinInt, -1, 0} {
		comes(t, "at once", cpu(codeAt), g, fuel, []uint32{codeAt}, 0, stop(codeAt), 0)
	}
	comes(t, "behind one", cpu(codeAt), g, 1, []uint32{codeAt + 4}, 1, stop(codeAt+4), 0)
	comes(t, "behind the slot", cpu(codeAt+4), g, 2, []uint32{codeAt}, 2, stop(codeAt), 0)
	comes(t, "in the slot", cpu(codeAt), g, 2, []uint32{codeAt + 8}, 2, empty(), 0)
	comes(t, "behind MaxFuel", cpu(codeAt), g, most, []uint32{codeAt + 12}, most, empty(), 0)
	g = coded(t, "addiu $2, $2, 1\nbne $2, $3, -2\nnop\nnop")
	comes(t, "behind MaxFuel", cpu(codeAt, 3, 1000), g, most, []uint32{codeAt + 12}, most, stop(codeAt+12), 0)
	comes(t, "behind MaxFuel, of more", cpu(codeAt, 3, 1000), g, most+1, []uint32{codeAt + 12}, most, stop(codeAt+12), 0)
}

// P12.1: as many stops as there may be; the one that is come to is the last of them, and the first.
func TestManyStops(t *testing.T) {
	g := coded(t, loop)
	var stops []uint32
	for n := range uint32(999) {
		stops = append(stops, dataAt+4*n)
	}
	comes(t, "none is come to", cpu(codeAt), g, most, stops, most, empty(), 0)
	comes(t, "the last", cpu(codeAt), g, most, append(slices.Clone(stops), codeAt+4), 1, stop(codeAt+4), most-1)
	comes(t, "the first", cpu(codeAt), g, most, append([]uint32{codeAt + 4}, stops...), 1, stop(codeAt+4), most-1)
}

// inParts holds that so much fuel in two parts comes to the same as at once.
func inParts(t *testing.T, c api.Cpu, g api.Guest, first, second int, stops []uint32) {
	t.Helper()
	wantCpu, wantGuest, want, wantLeft := Run(c, g, first+second, stops)
	c, g, e, left := Run(c, g, first, stops)
	if e != empty() || left != 0 {
		t.Fatalf("the first part: %+v, %d left", e, left)
	}
	c, g, e, left = Run(c, g, second, stops)
	if c != wantCpu || !guest.Same(g, wantGuest) || e != want || left != wantLeft {
		t.Errorf("%d and %d: %+v, %+v, %d left; want %+v, %+v, %d left", first, second, c, e, left, wantCpu, want, wantLeft)
	}
}

// P12.2: as much fuel in two parts, parted at each instruction, also between a branch and its slot, and between ll and sc.
func TestTwoParts(t *testing.T) {
	g := coded(t, "addiu $2, $2, 1\nll $8, 8192($0)\naddu $8, $8, $2\nsc $8, 8192($0)\nbne $2, $3, -5\nsw $2, 8196($0)\nsyscall 3\nnop")
	c := cpu(codeAt, 3, 3) // 18 instructions up to syscall
	for _, stops := range [][]uint32{nil, {codeAt + 24}, {codeAt + 20}} {
		for first := range 19 {
			if first == 18 && len(stops) > 0 && stops[0] == codeAt+24 {
				break // it ends with the stop
			}
			for second := range 8 {
				inParts(t, c, g, first, second, stops)
			}
			inParts(t, c, g, first, 30-first, stops)
		}
	}
	inParts(t, cpu(codeAt), coded(t, loop), 1000, 2000, nil)
	inParts(t, cpu(codeAt), coded(t, loop), 2, most-2, []uint32{codeAt + 8}) // the slot is next between both
}

// P12.3: stops that are not come to change nothing.
func TestStopsNotComeTo(t *testing.T) {
	g := coded(t, "addiu $2, $2, 1\nsw $2, 8192($0)\nbne $2, $3, -3\nnop\nbreak")
	for fuel := range 20 {
		wantCpu, wantGuest, want, wantLeft := Run(cpu(codeAt, 3, 4), g, fuel, nil)
		for _, stops := range [][]uint32{{}, {codeAt + 12}, {codeAt + 20}, {codeAt + 2, dataAt, 0, codeAt + 12}} {
			c, h, e, left := Run(cpu(codeAt, 3, 4), g, fuel, stops)
			if c != wantCpu || !guest.Same(h, wantGuest) || e != want || left != wantLeft {
				t.Errorf("fuel %d, stops %v: %+v, %d left; want %+v, %d left", fuel, stops, e, left, want, wantLeft)
			}
		}
	}
}

// 0.5: what is told shares no memory with what was given, whether an instruction is done or none is.
func TestOwnMemory(t *testing.T) {
	for _, text := range []string{"nop", "sw $5, 8192($0)", "syscall", "break", "lw $5, 1($0)"} {
		for fuel := range 3 {
			for _, stops := range [][]uint32{nil, {codeAt}, {codeAt + 4}} {
				g := coded(t, text)
				given := cloned(g)
				_, got, _, _ := Run(cpu(codeAt), g, fuel, stops)
				scribble(got)
				if !guest.Same(g, given) {
					t.Errorf("%s, fuel %d, stops %v: what was given shares memory with what is told", text, fuel, stops)
				}
			}
		}
	}
}

// 0.7: an empty list is none, also where no instruction is done.
func TestEmptyLists(t *testing.T) {
	g := api.Guest{Host: api.Host{Maps: []api.Map{}, Cells: []api.Cell{}}, Pages: []api.Page{}}
	for fuel := range 2 {
		_, got, _, _ := Run(cpu(0), g, fuel, nil)
		if got.Host.Maps != nil || got.Host.Cells != nil || got.Pages != nil {
			t.Errorf("fuel %d: lists that are not nil: %v", fuel, got)
		}
	}
}

// 0.1: none panics, and each ends: memories that are not fit, a register 0 that is not 0, more stops than there may be.
func TestWrongInputs(t *testing.T) {
	wild := api.Guest{
		Host:  api.Host{Maps: []api.Map{{Page: 9, Prot: -1}, {Page: 1 << 60, Prot: 99}}, Cells: []api.Cell{{At: 3}, {At: 1}}},
		Base:  1<<64 - 1,
		Pages: []api.Page{{N: 1, Prot: 7}, {N: 1, Prot: 7}, {N: 1 << 31, Prot: -5}, {N: 0, Prot: 7}},
	}
	many := make([]uint32, 5000)
	for _, g := range []api.Guest{{}, wild, {Pages: wild.Pages}, {Host: wild.Host}, {Base: 5, Pages: wild.Pages}} {
		for _, c := range []api.Cpu{cpu(0), cpu(codeAt), cpu(codeAt, 0, 77), cpu(1<<32 - 1), cpu(1<<32 - 4)} {
			for _, fuel := range []int{math.MinInt, 0, 5, math.MaxInt} {
				if _, _, e, left := Run(c, g, fuel, many); e.Kind == api.EvNone || left < 0 || left > most {
					t.Errorf("%+v, %d left", e, left)
				}
			}
		}
	}
}
