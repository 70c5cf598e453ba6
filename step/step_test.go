package step

import (
	"slices"
	"strings"
	"testing"

	"ferry/api"
	"ferry/asm"
	"ferry/dec"
	"ferry/gmem"
	"ferry/guest"
)

const (
	size  = 4096
	most  = 1<<31 - 1 // the greatest number with a sign
	least = 1 << 31   // the least one, as bits
	minus = 1<<32 - 1 // -1, as bits
	base  = 1 << 32
	reach = 1 << 32 // bytes of the guest

	codeAt  = 1 * size // where the tests' instructions are
	dataAt  = 2 * size // may be read and written; the next page may be read alone
	readAt  = 3 * size
	writeAt = 4 * size // may be written alone
	goneAt  = 5 * size // is not mapped
	runAt   = 6 * size // may be run alone
	noneAt  = 7 * size // is mapped, and nothing may be done there
	lastAt  = 1<<32 - size
)

// turns is an instruction of each name that has a slot behind it.
func turns() []string {
	return []string{"j 1030", "jal 1030", "jr $9", "jalr $31, $9", "jalr $0, $9", "beq $0, $0, 5", "bne $0, $0, 5",
		"blez $0, 5", "bgtz $0, 5", "bltz $0, 5", "bgez $0, 5", "bltzal $0, 5", "bgezal $0, 5"}
}

// world is a memory with pages of all kinds, its bytes at the pages' ends told by their places, and pages of the host at either side of its reach.
func world(t *testing.T) api.Guest {
	t.Helper()
	g := api.Guest{
		Host: api.Host{
			Maps:  []api.Map{{Page: base/api.HostPage - 1, Prot: 7}, {Page: (base + reach) / api.HostPage, Prot: 7}},
			Cells: []api.Cell{{At: base - 8, Word: 0x1122334455667788}, {At: base + reach, Word: 0x99}},
		},
		Base: base,
	}
	for _, p := range []api.Page{{N: 0, Prot: 3}, {N: 1, Prot: 7}, {N: 2, Prot: 3}, {N: 3, Prot: 1}, {N: 4, Prot: 2}, {N: 6, Prot: 4}, {N: 7, Prot: 0}, {N: 1<<20 - 1, Prot: 7}} {
		var e api.Errno
		if g, e = guest.Map(g, p.N, 1, p.Prot); e != api.OK {
			t.Fatalf("Map of page %d: %v", p.N, e)
		}
		g = poked(t, g, p.N*size, "\x81\x92\xa3\xb4\xc5\xd6\xe7\xf8")
		g = poked(t, g, p.N*size+size-8, "\x01\x12\x23\x34\x45\x56\x67\x78")
	}
	return g
}

func poked(t *testing.T, g api.Guest, a uint32, s string) api.Guest {
	t.Helper()
	g, f := gmem.Poke(g, a, s)
	if f != (api.Fault{}) {
		t.Fatalf("Poke at %#x: %v", a, f)
	}
	return g
}

// cloned is a memory of the test's own.
func cloned(g api.Guest) api.Guest {
	return api.Guest{
		Host:  api.Host{Maps: slices.Clone(g.Host.Maps), Cells: slices.Clone(g.Host.Cells)},
		Base:  g.Base,
		Pages: slices.Clone(g.Pages),
	}
}

// coded is a memory with the instruction of a text at a place.
func coded(t *testing.T, g api.Guest, at uint32, text string) api.Guest {
	t.Helper()
	code, _, e := asm.Assemble(text + "\n")
	if e != api.OK {
		t.Fatalf("%q: %v", text, e)
	}
	return poked(t, g, at, code)
}

// cpu is a processor at the tests' code, each register with a number of its own, but those that are told (a register, its number, and so on).
func cpu(regs ...uint32) api.Cpu {
	c := api.Cpu{Pc: codeAt, Next: codeAt + 4, Hi: 0x48690000, Lo: 0x4c6f0000}
	for r := 1; r < 32; r++ {
		c.R[r] = 0x01010101 * uint32(r)
	}
	for n := 0; n+1 < len(regs); n += 2 {
		c.R[regs[n]] = regs[n+1]
	}
	return c
}

// comes holds that a step comes to what is wanted, and leaves what it was given.
func comes(t *testing.T, what string, c api.Cpu, g api.Guest, wantCpu api.Cpu, wantGuest api.Guest, want api.Event) {
	t.Helper()
	given := cloned(g)
	gotCpu, gotGuest, got := Step(c, g)
	if got != want {
		t.Errorf("%s: event %+v; want %+v", what, got, want)
	}
	if gotCpu != wantCpu {
		t.Errorf("%s: %+v; want %+v", what, gotCpu, wantCpu)
	}
	if !guest.Same(gotGuest, wantGuest) {
		t.Errorf("%s: the memory is not as it should be", what)
	}
	if !guest.Same(g, given) {
		t.Errorf("%s: what was given has changed", what)
	}
}

// gone is a processor that goes on, as some instruction changes it.
func gone(c api.Cpu, change func(*api.Cpu)) api.Cpu {
	c.Pc, c.Next, c.Slot = c.Next, c.Next+4, false
	if change != nil {
		change(&c)
	}
	return c
}

// does holds that an instruction goes on, and changes the processor so, and not the memory.
func does(t *testing.T, text string, c api.Cpu, change func(*api.Cpu)) {
	t.Helper()
	g := coded(t, world(t), c.Pc, text)
	comes(t, text, c, g, gone(c, change), g, api.Event{})
}

// sets holds that an instruction goes on, and changes a register alone.
func sets(t *testing.T, text string, c api.Cpu, reg int, v uint32) {
	t.Helper()
	does(t, text, c, func(c *api.Cpu) { c.R[reg] = v })
}

// stores holds that an instruction goes on with bytes put into the memory, the processor else as it was.
func stores(t *testing.T, text string, c api.Cpu, a uint32, s string, change func(*api.Cpu)) {
	t.Helper()
	g := coded(t, world(t), c.Pc, text)
	comes(t, text, c, g, gone(c, change), poked(t, g, a, s), api.Event{})
}

// ends holds that an instruction ends with an event, and leaves all as it was, in a slot and out of one.
func ends(t *testing.T, text string, c api.Cpu, e api.Event) {
	t.Helper()
	g := coded(t, world(t), c.Pc, text)
	for _, slot := range []bool{false, true} {
		c.Slot = slot
		comes(t, text, c, g, c, g, e)
	}
}

func notMultiple(at uint32) api.Event { return api.Event{Kind: api.EvAlign, At: at} }

func missing(at uint64) api.Event {
	return api.Event{Kind: api.EvFault, Fault: api.Fault{Kind: api.FtThere, At: at}}
}

func refused(at uint64) api.Event {
	return api.Event{Kind: api.EvFault, Fault: api.Fault{Kind: api.FtRight, At: at}}
}

func noIns(w uint32) api.Event { return api.Event{Kind: api.EvNoIns, Code: w} }

func linked(c api.Cpu, at uint32) api.Cpu {
	c.Link, c.Linked = at, true
	return c
}

func unlink(c *api.Cpu) { c.Linked = false }

// P11.2: the chapter's examples.
func TestExamples(t *testing.T) {
	g, _ := guest.Map(api.Guest{}, 1, 1, 7)
	g = coded(t, g, 4096, "addiu $2, $0, 5\nbeq $0, $0, 2\nlw $1, 4098($0)")
	c := New(4096, 0)
	want := New(4100, 0)
	want.R[2] = 5
	comes(t, "addiu", c, g, want, g, api.Event{})
	comes(t, "beq", want, g, gone(want, func(c *api.Cpu) { c.Next, c.Slot = 4112, true }), g, api.Event{})
	c = New(4104, 0)
	comes(t, "lw", c, g, c, g, notMultiple(4098))
}

// P11.1: all 0, but Pc, Next and register 29; Next goes past 2^32.
func TestNew(t *testing.T) {
	for _, pc := range []uint32{0, 1, 4096, 0x400000, least, 1<<32 - 8, 1<<32 - 5, 1<<32 - 4, 1<<32 - 3, minus} {
		for _, sp := range []uint32{0, 7, 0x7fff0000, minus} {
			want := api.Cpu{Pc: pc, Next: pc + 4}
			want.R[29] = sp
			if got := New(pc, sp); got != want {
				t.Errorf("New(%#x, %#x): %+v", pc, sp, got)
			}
		}
	}
	if got := New(1<<32-4, 0).Next; got != 0 {
		t.Errorf("New(2^32 - 4): Next is %#x", got)
	}
}

// P11.2: Pc that is no multiple of 4 is told ahead of all else, a fault among it.
func TestPcNoMultiple(t *testing.T) {
	g := coded(t, world(t), codeAt, "addiu $2, $0, 5\naddiu $2, $0, 5")
	for _, page := range []uint32{codeAt, dataAt, goneAt, lastAt, 0} {
		for add := range uint32(4) {
			c := cpu()
			c.Pc = page + add
			if add != 0 {
				comes(t, "a step", c, g, c, g, notMultiple(page+add))
			}
		}
	}
	c := cpu()
	c.Pc = minus
	comes(t, "a step", c, g, c, g, notMultiple(minus))
}

// P11.2: a fetch that faults: nothing mapped, or no right to run.
func TestFetchFaults(t *testing.T) {
	for page, e := range map[uint32]api.Event{
		goneAt: missing(goneAt), goneAt + size - 4: missing(goneAt + size - 4), 1 << 31: missing(1 << 31),
		dataAt: refused(dataAt), readAt: refused(readAt), writeAt: refused(writeAt), noneAt + 4: refused(noneAt + 4), 0: refused(0),
	} {
		for _, slot := range []bool{false, true} {
			c, g := cpu(), world(t)
			c.Pc, c.Slot = page, slot
			comes(t, "a step", c, g, c, g, e)
		}
	}
}

// P11.2: a page that may be run alone, a page's very end, and the last address.
func TestFetchAtEdges(t *testing.T) {
	for _, at := range []uint32{runAt, runAt + size - 4, codeAt + size - 4, lastAt, 1<<32 - 4} {
		c := cpu()
		c.Pc, c.Next = at, at+4
		sets(t, "addiu $2, $0, 5", c, 2, 5)
	}
}

// P11.2: a word that is no instruction's, in a slot and out of one.
func TestNoInstruction(t *testing.T) {
	for _, w := range []uint32{minus, 0x0000003f, 0x00000001, 0x50000000, 0x7c00083b, 0x7c00e83c, 0x04020000, 0x70000003, 0xcc000000, 0x00a00040} {
		if i, is := dec.Decode(w); is {
			t.Fatalf("%#x is %v", w, i)
		}
		g, _ := gmem.Store(world(t), codeAt, 4, uint64(w))
		for _, slot := range []bool{false, true} {
			c := cpu()
			c.Slot = slot
			comes(t, "a word", c, g, c, g, noIns(w))
		}
	}
}

// P11.2, P11.3: a branch or a jump in a slot, whether it would go or not, is no instruction there, and links nothing.
func TestTurnInSlot(t *testing.T) {
	for _, text := range turns() {
		g := coded(t, world(t), codeAt, text)
		w, _ := gmem.Fetch(g, codeAt)
		c := cpu()
		c.Slot, c.Next = true, 0x5000
		comes(t, text, c, g, c, g, noIns(w))
	}
}

// P11.2: what is done goes on at Next, wherever that is; Next goes past 2^32; Slot is false then.
func TestGoesOn(t *testing.T) {
	for _, next := range []uint32{codeAt + 4, codeAt, 0, 3, 0x7fff1020, 1<<32 - 8, 1<<32 - 4, minus} {
		for _, slot := range []bool{false, true} {
			c := cpu()
			c.Next, c.Slot = next, slot
			g := coded(t, world(t), codeAt, "addiu $2, $0, 5")
			want := c
			want.R[2], want.Pc, want.Next, want.Slot = 5, next, next+4, false
			comes(t, "addiu", c, g, want, g, api.Event{})
		}
	}
	c := cpu()
	c.Next = 1<<32 - 4
	does(t, "sll $0, $0, 0", c, func(c *api.Cpu) { c.Pc, c.Next = 1<<32-4, 0 })
}

// P11.2: each instruction of which alu makes a number: it goes to Rt of the forms tsi, ti and tsx, else to Rd.
func TestNumbers(t *testing.T) {
	c := cpu(4, 0x80000010, 5, 3)
	toRd := []string{"add $2, $4, $5", "addu $2, $4, $5", "sub $2, $5, $5", "subu $2, $4, $5", "and $2, $4, $5", "or $2, $4, $5",
		"xor $2, $4, $5", "nor $2, $4, $5", "slt $2, $4, $5", "sltu $2, $4, $5", "mul $2, $4, $5", "sll $2, $4, 3", "srl $2, $4, 3",
		"sra $2, $4, 3", "rotr $2, $4, 5", "sllv $2, $4, $5", "srlv $2, $4, $5", "srav $2, $4, $5", "rotrv $2, $4, $5",
		"clz $2, $5", "clo $2, $4", "wsbh $2, $4", "seb $2, $4", "seh $2, $4"}
	rd := []uint32{0x80000013, 0x80000013, 0, 0x8000000d, 0, 0x80000013, 0x80000013, 0x7fffffec, 1, 0, 0x80000030, 0x80, 0x10000002,
		0xf0000002, 0x84000000, 0x80, 0x10000002, 0xf0000002, 0x10000002, 30, 1, 0x00801000, 0x10, 0x10}
	for n, text := range toRd {
		sets(t, text, c, 2, rd[n])
	}
	toRt := []string{"addi $2, $4, -1", "addiu $2, $4, -1", "slti $2, $4, -1", "sltiu $2, $4, -1", "andi $2, $4, 48", "ori $2, $4, 1",
		"xori $2, $4, 17", "lui $2, 32769", "ext $2, $4, 4, 27", "ins $2, $5, 8, 15"}
	rt := []uint32{0x8000000f, 0x8000000f, 1, 1, 16, 0x80000011, 0x80000001, 0x80010000, 0x08000001, 0x02020302}
	for n, text := range toRt {
		sets(t, text, c, 2, rt[n])
	}
}

// P11.2: sums that go over, in their place and in a slot; what is one less does not.
func TestOver(t *testing.T) {
	over := api.Event{Kind: api.EvOver}
	ends(t, "add $2, $4, $5", cpu(4, most, 5, 1), over)
	ends(t, "add $2, $4, $5", cpu(4, least, 5, minus), over)
	ends(t, "sub $2, $4, $5", cpu(4, least, 5, 1), over)
	ends(t, "sub $2, $4, $5", cpu(4, 0, 5, least), over)
	ends(t, "addi $2, $4, 1", cpu(4, most), over)
	ends(t, "addi $2, $4, -1", cpu(4, least), over)
	ends(t, "add $0, $4, $5", cpu(4, most, 5, 1), over) // though it would go nowhere
	sets(t, "add $2, $4, $5", cpu(4, most-1, 5, 1), 2, most)
	sets(t, "addi $2, $4, -1", cpu(4, least+1), 2, least)
	sets(t, "addu $2, $4, $5", cpu(4, most, 5, 1), 2, least)
	sets(t, "subu $2, $4, $5", cpu(4, least, 5, 1), 2, most)
	sets(t, "addiu $2, $4, 1", cpu(4, most), 2, least)
}

// P11.2: Hi and Lo, by each instruction that makes them, and taken from there.
func TestHiAndLo(t *testing.T) {
	c := cpu(4, 1<<32-7, 5, 2)
	c.Hi, c.Lo = 1, 5
	for text, want := range map[string][2]uint32{
		"mult $4, $5": {minus, 1<<32 - 14}, "multu $4, $5": {1, 1<<32 - 14}, "div $4, $5": {minus, 1<<32 - 3}, "divu $4, $5": {1, 0x7ffffffc},
		"madd $4, $5": {0, 1<<32 - 9}, "maddu $4, $5": {2, 1<<32 - 9}, "msub $4, $5": {1, 19}, "msubu $4, $5": {minus, 19},
		"mthi $4": {1<<32 - 7, 5}, "mtlo $4": {1, 1<<32 - 7}, "div $4, $0": {1<<32 - 7, minus},
	} {
		does(t, text, c, func(c *api.Cpu) { c.Hi, c.Lo = want[0], want[1] })
	}
	sets(t, "mfhi $2", c, 2, 1)
	sets(t, "mflo $2", c, 2, 5)
}

// P11.2: movz and movn, where they move, and where they don't.
func TestMoves(t *testing.T) {
	for _, n := range []uint32{1, 2, least, minus} {
		sets(t, "movn $2, $4, $5", cpu(4, 77, 5, n), 2, 77)
		does(t, "movz $2, $4, $5", cpu(4, 77, 5, n), nil)
	}
	sets(t, "movz $2, $4, $5", cpu(4, 77, 5, 0), 2, 77)
	sets(t, "movz $2, $4, $0", cpu(4, 77), 2, 77)
	does(t, "movn $2, $4, $5", cpu(4, 77, 5, 0), nil)
	does(t, "movn $2, $4, $0", cpu(4, 77), nil)
	sets(t, "movn $2, $0, $2", cpu(), 2, 0)
}

// P11.2: rdhwr tells the thread's place.
func TestThread(t *testing.T) {
	sets(t, "rdhwr $3, $29", cpu(26, 0x7ffe7000), 3, 0x7ffe7000)
	does(t, "rdhwr $26, $29", cpu(26, 5), nil)
}

// P11.2: traps, and where there is none it goes on.
func TestTraps(t *testing.T) {
	trap := api.Event{Kind: api.EvTrap}
	for _, x := range []struct {
		name  string
		s, t  uint32
		traps bool
	}{
		{"tge", 1, minus, true}, {"tge", 5, 5, true}, {"tge", minus, 1, false}, {"tgeu", minus, 1, true}, {"tgeu", 5, 5, true}, {"tgeu", 1, minus, false},
		{"tlt", minus, 1, true}, {"tlt", 5, 5, false}, {"tlt", 1, minus, false}, {"tltu", 1, minus, true}, {"tltu", 5, 5, false}, {"tltu", minus, 1, false},
		{"teq", 5, 5, true}, {"teq", 5, 6, false}, {"tne", 5, 6, true}, {"tne", 5, 5, false},
	} {
		text, c := x.name+" $4, $5", cpu(4, x.s, 5, x.t)
		if x.traps {
			ends(t, text, c, trap)
		} else {
			does(t, text, c, nil)
		}
	}
	ends(t, "teq $0, $0", cpu(), trap)
}

// P11.2, P11.3: syscall goes on beside its event, in a slot, too; break does not.
func TestCallAndBreak(t *testing.T) {
	for _, code := range []uint32{0, 1, 7, 1<<20 - 1} {
		g, _ := gmem.Store(world(t), codeAt, 4, uint64(code<<6|12))
		for _, slot := range []bool{false, true} {
			c := linked(cpu(), dataAt)
			c.Slot, c.Next = slot, 0x5000
			comes(t, "syscall", c, g, gone(c, nil), g, api.Event{Kind: api.EvCall, Code: code})
		}
		g, _ = gmem.Store(world(t), codeAt, 4, uint64(code<<6|13))
		for _, slot := range []bool{false, true} {
			c := linked(cpu(), dataAt)
			c.Slot, c.Next = slot, 0x5000
			comes(t, "break", c, g, c, g, api.Event{Kind: api.EvBreak, Code: code})
		}
	}
}

// leads holds that a branch or a jump lets its slot be next, with what is behind it, and changes the processor so.
func leads(t *testing.T, text string, c api.Cpu, next uint32, change func(*api.Cpu)) {
	t.Helper()
	does(t, text, c, func(c *api.Cpu) {
		c.Next, c.Slot = next, true
		if change != nil {
			change(c)
		}
	})
}

func set(reg int, v uint32) func(*api.Cpu) { return func(c *api.Cpu) { c.R[reg] = v } }

// P11.2: j and jal take their highest 4 bits from the slot's address, which may have others than theirs.
func TestJumps(t *testing.T) {
	leads(t, "j 1030", cpu(), 4120, nil)
	leads(t, "j 0", cpu(), 0, nil)
	leads(t, "j 67108863", cpu(), 1<<28-4, nil)
	leads(t, "jal 67108863", cpu(), 1<<28-4, set(31, codeAt+8))
	c := cpu()
	c.Pc, c.Next = lastAt, lastAt+4
	leads(t, "j 1", c, 0xf0000004, nil)
	leads(t, "jal 1", c, 0xf0000004, set(31, lastAt+8))
	c.Pc, c.Next = 1<<32-8, 1<<32-4
	leads(t, "j 1", c, 0xf0000004, nil)
	leads(t, "jal 1", c, 0xf0000004, set(31, 0))
	c.Pc, c.Next = 1<<32-4, 0
	leads(t, "j 1", c, 4, nil)
	leads(t, "jal 67108863", c, 1<<28-4, set(31, 4))
}

// P11.2: jr and jalr go to what Rs has, be it no multiple of 4, or the register that is linked.
func TestRegisterJumps(t *testing.T) {
	for _, to := range []uint32{0, 3, 0x400000, least, minus} {
		leads(t, "jr $9", cpu(9, to), to, nil)
		leads(t, "jalr $31, $9", cpu(9, to), to, set(31, codeAt+8))
		leads(t, "jalr $5, $9", cpu(9, to), to, set(5, codeAt+8))
		leads(t, "jalr $31, $31", cpu(31, to), to, set(31, codeAt+8))
		leads(t, "jalr $9, $9", cpu(9, to), to, set(9, codeAt+8))
		leads(t, "jalr $0, $9", cpu(9, to), to, nil)
	}
	leads(t, "jr $0", cpu(), 0, nil)
	c := cpu(9, 64)
	c.Pc, c.Next = 1<<32-4, 0
	leads(t, "jalr $31, $9", c, 64, set(31, 4))
	c.Pc, c.Next = 1<<32-8, 1<<32-4
	leads(t, "jalr $31, $9", c, 64, set(31, 0))
}

// P11.2: where each branch goes, and where it does not; its slot is next either way.
func TestBranches(t *testing.T) {
	goes := map[string][]uint32{ // of 0, 1, the greatest, the least, -1
		"blez $4, 5": {1, 0, 0, 1, 1}, "bgtz $4, 5": {0, 1, 1, 0, 0}, "bltz $4, 5": {0, 0, 0, 1, 1}, "bgez $4, 5": {1, 1, 1, 0, 0},
		"bltzal $4, 5": {0, 0, 0, 1, 1}, "bgezal $4, 5": {1, 1, 1, 0, 0}, "beq $4, $5, 5": {0, 1, 0, 0, 0}, "bne $4, $5, 5": {1, 0, 1, 1, 1},
	}
	for text, which := range goes {
		for n, v := range []uint32{0, 1, most, least, minus} {
			next := uint32(codeAt + 8)
			if which[n] == 1 {
				next = codeAt + 4 + 20
			}
			links := set(0, 0)
			if strings.Contains(text, "al ") {
				links = set(31, codeAt+8)
			}
			leads(t, text, cpu(4, v, 5, 1), next, links)
		}
	}
}

// P11.2: a branch's target goes below and past 2^32, and so does what is linked; it counts from its slot, not from Next.
func TestBranchTargets(t *testing.T) {
	leads(t, "beq $0, $0, 0", cpu(), codeAt+4, nil)
	leads(t, "beq $0, $0, -1", cpu(), codeAt, nil)
	leads(t, "beq $0, $0, 32767", cpu(), codeAt+4+32767*4, nil)
	leads(t, "beq $0, $0, -32768", cpu(), 1<<32+codeAt+4-32768*4, nil)
	c := cpu()
	c.Pc, c.Next = 1<<32-4, 0
	leads(t, "bgez $0, 0", c, 0, nil)
	leads(t, "bgez $0, 3", c, 12, nil)
	leads(t, "bgezal $0, -1", c, 1<<32-4, set(31, 4))
	c.Pc, c.Next = 1<<32-8, 1<<32-4
	leads(t, "bgezal $0, 1", c, 0, set(31, 0))
	leads(t, "bltzal $0, 1", c, 0, set(31, 0)) // it does not go: Next and 4 are 0, too
	c = cpu()
	c.Next = 0x9000
	leads(t, "beq $0, $0, 2", c, codeAt+12, nil)
	leads(t, "bne $0, $0, 2", c, 0x9004, nil)
	leads(t, "bgezal $0, 2", c, codeAt+12, set(31, codeAt+8))
	leads(t, "jal 1", c, 4, set(31, codeAt+8))
}

// P11.2: the branches that link take what Rs has ahead of that, and link though they don't go.
func TestBranchesThatLink(t *testing.T) {
	leads(t, "bltzal $31, 5", cpu(31, minus), codeAt+24, set(31, codeAt+8))
	leads(t, "bltzal $31, 5", cpu(31, 5), codeAt+8, set(31, codeAt+8))
	leads(t, "bgezal $31, 5", cpu(31, minus), codeAt+8, set(31, codeAt+8))
	leads(t, "bgezal $31, 5", cpu(31, 0), codeAt+24, set(31, codeAt+8))
	leads(t, "bltzal $0, 5", cpu(), codeAt+8, set(31, codeAt+8))
	leads(t, "bltz $31, 5", cpu(31, minus), codeAt+24, nil)
}

// P11.4: what stands behind a branch is done ahead of its target, whether it goes or not; just one slot follows each.
func TestSlots(t *testing.T) {
	for _, text := range turns() {
		g := coded(t, world(t), codeAt, text+"\naddiu $2, $2, 1\naddiu $3, $3, 1")
		for at := uint32(codeAt + 12); at < codeAt+64; at += 4 {
			g = coded(t, g, at, "addiu $4, $4, 1")
		}
		c := cpu(2, 0, 3, 0, 4, 0, 9, codeAt+24)
		c, _, _ = Step(c, g)
		target := c.Next
		if c.Pc != codeAt+4 || !c.Slot || c.R[2]+c.R[3]+c.R[4] != 0 {
			t.Errorf("%s: %+v", text, c)
		}
		c, _, e := Step(c, g)
		if e.Kind != api.EvNone || c.R[2] != 1 || c.Pc != target || c.Next != target+4 || c.Slot {
			t.Errorf("%s, its slot: %+v, %+v", text, c, e)
		}
		c, _, e = Step(c, g)
		skipped := uint32(0)
		if target != codeAt+8 {
			skipped = 1
		}
		if e.Kind != api.EvNone || c.R[2] != 1 || c.R[3] != 1-skipped || c.R[4] != skipped || c.Pc != target+4 || c.Slot {
			t.Errorf("%s, its target: %+v, %+v", text, c, e)
		}
	}
}

// P11.3: register 0 stays 0, whatever is written to it.
func TestRegisterZero(t *testing.T) {
	for _, text := range []string{"addiu $0, $4, 5", "addu $0, $4, $5", "lui $0, 7", "ext $0, $4, 0, 31", "ins $0, $4, 0, 31", "mul $0, $4, $5", "nor $0, $0, $0",
		"mfhi $0", "mflo $0", "movz $0, $4, $0", "movn $0, $4, $5", "rdhwr $0, $29", "clz $0, $4", "seb $0, $4",
		"lb $0, 8192($0)", "lbu $0, 8192($0)", "lh $0, 8192($0)", "lhu $0, 8192($0)", "lw $0, 8192($0)", "lwl $0, 8193($0)", "lwr $0, 8193($0)"} {
		does(t, text, cpu(), nil)
	}
	does(t, "ll $0, 8192($0)", cpu(), func(c *api.Cpu) { c.Link, c.Linked = dataAt, true })
	does(t, "sc $0, 8192($0)", cpu(), nil)
	stores(t, "sc $0, 8192($0)", linked(cpu(), dataAt), dataAt, "\x00\x00\x00\x00", unlink)
	leads(t, "jalr $0, $4", cpu(), 0x04040404, nil)
}

// P11.2: each load, its number below 0 and above, at addresses past 2^32 and below 0.
func TestLoads(t *testing.T) {
	for text, v := range map[string]uint32{
		"lb $2, 0($4)": 0xffffff81, "lbu $2, 0($4)": 0x81, "lb $2, 3($4)": 0xffffffb4, "lh $2, 0($4)": 0xffff8192, "lhu $2, 0($4)": 0x8192, "lh $2, 2($4)": 0xffffa3b4,
		"lw $2, 0($4)": 0x8192a3b4, "lw $2, 4($4)": 0xc5d6e7f8, "lb $2, 4088($4)": 1, "lh $2, 4090($4)": 0x2334, "lhu $2, 4090($4)": 0x2334,
		"lbu $2, 4095($4)": 0x78, "lh $2, 4094($4)": 0x6778, "lw $2, 4092($4)": 0x45566778, "lb $2, 4096($4)": 0xffffff81, "lw $2, 4096($4)": 0x8192a3b4,
		"lw $2, -4096($4)": 0, "lb $2, -8193($4)": 0x78, "lw $2, -8196($4)": 0x45566778, "lw $2, 100($4)": 0, "lw $4, 0($4)": 0x8192a3b4,
	} {
		reg := 2
		if strings.HasPrefix(text, "lw $4") {
			reg = 4
		}
		if text == "lw $2, -4096($4)" {
			w, _ := gmem.Fetch(coded(t, world(t), codeAt, text), codeAt)
			v = w // it loads itself
		}
		sets(t, text, cpu(4, dataAt), reg, v)
	}
	sets(t, "lw $2, 8($4)", cpu(4, 1<<32-4), 2, 0xc5d6e7f8)
	sets(t, "lw $2, -8($0)", cpu(), 2, 0x01122334)
	sets(t, "lbu $2, -1($0)", cpu(), 2, 0x78)
}

// P11.2: each store, its lowest bytes alone; the word and its neighbours.
func TestStores(t *testing.T) {
	c := cpu(4, dataAt, 5, 0xa1b2c3d4)
	stores(t, "sb $5, 0($4)", c, dataAt, "\xd4", nil)
	stores(t, "sb $5, 3($4)", c, dataAt+3, "\xd4", nil)
	stores(t, "sb $5, 4095($4)", c, dataAt+4095, "\xd4", nil)
	stores(t, "sh $5, 2($4)", c, dataAt+2, "\xc3\xd4", nil)
	stores(t, "sh $5, 4094($4)", c, dataAt+4094, "\xc3\xd4", nil)
	stores(t, "sw $5, 4($4)", c, dataAt+4, "\xa1\xb2\xc3\xd4", nil)
	stores(t, "sw $5, 4092($4)", c, dataAt+4092, "\xa1\xb2\xc3\xd4", nil)
	stores(t, "sw $5, 8192($4)", c, writeAt, "\xa1\xb2\xc3\xd4", nil)
	stores(t, "sb $5, -8193($4)", c, minus, "\xd4", nil)
	stores(t, "sw $5, -8196($4)", c, 1<<32-4, "\xa1\xb2\xc3\xd4", nil)
	stores(t, "sw $4, 0($4)", c, dataAt, "\x00\x00\x20\x00", nil)
	stores(t, "sw $0, 0($4)", c, dataAt, "\x00\x00\x00\x00", nil)
	stores(t, "sw $5, 8($4)", cpu(4, 1<<32-4, 5, 7), 4, "\x00\x00\x00\x07", nil)
	stores(t, "sw $5, 0($4)", cpu(4, codeAt, 5, 7), codeAt, "\x00\x00\x00\x07", nil) // itself
}

// P11.2: addresses that are no multiples are told ahead of faults, of sc though it is not linked.
func TestNoMultiples(t *testing.T) {
	for _, page := range []uint32{dataAt, readAt, writeAt, goneAt, noneAt, lastAt} {
		for add := range uint32(4) {
			for _, name := range []string{"lh", "lhu", "sh", "lw", "sw", "ll", "sc"} {
				of := uint32(4)
				if strings.Contains(name, "h") {
					of = 2
				}
				if add%of != 0 {
					ends(t, name+" $5, 0($4)", cpu(4, page+add), notMultiple(page+add))
					ends(t, name+" $5, -1($4)", linked(cpu(4, page+add+1), page+add), notMultiple(page+add))
				}
			}
		}
	}
	ends(t, "lw $5, 3($4)", cpu(4, 1<<32-2), notMultiple(1))
	ends(t, "sh $5, -1($0)", cpu(), notMultiple(minus))
}

// P11.2: faults of loads and stores, on pages that are not there, or may not be.
func TestAccessFaults(t *testing.T) {
	for _, name := range []string{"lb", "lbu", "lh", "lhu", "lw", "ll", "lwl", "lwr"} {
		ends(t, name+" $5, 0($4)", cpu(4, goneAt), missing(goneAt))
		ends(t, name+" $5, 0($4)", cpu(4, writeAt), refused(writeAt))
		ends(t, name+" $5, 0($4)", cpu(4, runAt), refused(runAt))
		ends(t, name+" $5, 0($4)", cpu(4, noneAt), refused(noneAt))
		ends(t, name+" $5, -4($4)", cpu(4, goneAt+size), missing(goneAt+size-4))
		ends(t, name+" $0, 0($4)", cpu(4, goneAt), missing(goneAt))
	}
	for _, name := range []string{"sb", "sh", "sw", "sc", "swl", "swr"} {
		ends(t, name+" $5, 0($4)", linked(cpu(4, goneAt), goneAt), missing(goneAt))
		ends(t, name+" $5, 0($4)", linked(cpu(4, readAt), readAt), refused(readAt))
		ends(t, name+" $5, 0($4)", linked(cpu(4, runAt), runAt), refused(runAt))
		ends(t, name+" $5, 0($4)", linked(cpu(4, noneAt), noneAt), refused(noneAt))
		ends(t, name+" $5, -4($4)", linked(cpu(4, goneAt+size), goneAt+size-4), missing(goneAt+size-4))
	}
	ends(t, "sb $5, 4096($4)", cpu(4, dataAt), refused(readAt))
	ends(t, "sb $5, -1($4)", cpu(4, goneAt+size), missing(goneAt+size-1))
}

// P11.2: swl and swr load, and then they store: where nothing may be read, and where nothing may be written; the fault is at the word, not at the byte.
func TestPartFaults(t *testing.T) {
	for _, name := range []string{"lwl", "lwr", "swl", "swr"} {
		for at := range uint32(4) {
			c := cpu(4, writeAt+at)
			ends(t, name+" $5, 0($4)", c, refused(writeAt))
			ends(t, name+" $5, 0($4)", cpu(4, goneAt+at), missing(goneAt))
			ends(t, name+" $5, 0($4)", cpu(4, goneAt+size-4+at), missing(goneAt+size-4))
			if name[0] == 's' {
				ends(t, name+" $5, 0($4)", cpu(4, readAt+at), refused(readAt))
			}
		}
	}
}

// P11.2: lwl and lwr at each byte of a word, at a page's end, too: the word behind it is not asked.
func TestLoadParts(t *testing.T) {
	left := []uint32{0x45566778, 0x566778d4, 0x6778c3d4, 0x78b2c3d4}
	right := []uint32{0xa1b2c345, 0xa1b24556, 0xa1455667, 0x45566778}
	for at := range 4 {
		for _, page := range []uint32{dataAt, readAt, lastAt} {
			c := cpu(4, page+size-4+uint32(at), 5, 0xa1b2c3d4)
			sets(t, "lwl $5, 0($4)", c, 5, left[at])
			sets(t, "lwr $5, 0($4)", c, 5, right[at])
			c.R[4] += 8
			sets(t, "lwl $5, -8($4)", c, 5, left[at])
			sets(t, "lwr $5, -8($4)", c, 5, right[at])
		}
	}
	sets(t, "lwl $4, 0($4)", cpu(4, dataAt+1), 4, 0x92a3b401)
	sets(t, "lwr $4, 0($4)", cpu(4, dataAt+1), 4, 0x00008192)
}

// P11.2: swl and swr at each byte of a word, at a page's end, too.
func TestStoreParts(t *testing.T) {
	left := []string{"\xa1\xb2\xc3\xd4", "\x45\xa1\xb2\xc3", "\x45\x56\xa1\xb2", "\x45\x56\x67\xa1"}
	right := []string{"\xd4\x56\x67\x78", "\xc3\xd4\x67\x78", "\xb2\xc3\xd4\x78", "\xa1\xb2\xc3\xd4"}
	for at := range 4 {
		for _, page := range []uint32{dataAt, codeAt, lastAt} {
			c := cpu(4, page+size-4+uint32(at), 5, 0xa1b2c3d4)
			stores(t, "swl $5, 0($4)", c, page+size-4, left[at], nil)
			stores(t, "swr $5, 0($4)", c, page+size-4, right[at], nil)
			stores(t, "swl $5, 0($4)", linked(c, page+size-4), page+size-4, left[at], unlink)
			stores(t, "swr $5, 0($4)", linked(c, page+size-4), page+size-4, right[at], unlink)
		}
	}
}

// P11.2: ll links its address, whatever was linked.
func TestLink(t *testing.T) {
	for _, c := range []api.Cpu{cpu(4, dataAt), linked(cpu(4, dataAt), dataAt), linked(cpu(4, dataAt), 0x1234)} {
		does(t, "ll $2, 4($4)", c, func(c *api.Cpu) { c.R[2], c.Link, c.Linked = 0xc5d6e7f8, dataAt+4, true })
	}
	does(t, "ll $4, 0($4)", cpu(4, dataAt), func(c *api.Cpu) { c.R[4], c.Link, c.Linked = 0x8192a3b4, dataAt, true })
	does(t, "lw $2, 0($4)", linked(cpu(4, dataAt), dataAt), set(2, 0x8192a3b4)) // a load leaves the link
}

// P11.2: sc stores where it is linked, and tells 1; with another address, or without ll, it stores nothing, asks for no fault, and tells 0; either way it is linked no more.
func TestStoreConditional(t *testing.T) {
	won := func(c *api.Cpu) { c.R[5], c.Linked = 1, false }
	lost := func(c *api.Cpu) { c.R[5], c.Linked = 0, false }
	c := cpu(4, dataAt, 5, 0xa1b2c3d4)
	stores(t, "sc $5, 0($4)", linked(c, dataAt), dataAt, "\xa1\xb2\xc3\xd4", won)
	stores(t, "sc $5, 4092($4)", linked(c, dataAt+4092), dataAt+4092, "\xa1\xb2\xc3\xd4", won)
	stores(t, "sc $4, 0($4)", linked(c, dataAt), dataAt, "\x00\x00\x20\x00", func(c *api.Cpu) { c.R[4], c.Linked = 1, false })
	for _, other := range []uint32{0, dataAt - 4, dataAt + 1, dataAt + 3, dataAt + 4, dataAt + size, dataAt + 1<<31} {
		does(t, "sc $5, 0($4)", linked(c, other), lost)
	}
	does(t, "sc $5, 0($4)", c, lost)
	c.Link = dataAt // where ll was, but a store came between
	does(t, "sc $5, 0($4)", c, lost)
	for _, page := range []uint32{readAt, goneAt, runAt, noneAt} {
		does(t, "sc $5, 0($4)", cpu(4, page), lost)
		does(t, "sc $5, 0($4)", linked(cpu(4, page), dataAt), lost)
	}
	does(t, "sc $5, 0($0)", cpu(), lost) // Link is 0, and so is the address, but nothing is linked
}

// P11.2: a store of the word that Link is in lets it be linked no more, one of another word leaves it; a store that faults, too.
func TestStoresAndLink(t *testing.T) {
	bytes := map[string]string{"sb": "\xd4", "sh": "\xc3\xd4", "sw": "\xa1\xb2\xc3\xd4"}
	for name, s := range bytes {
		for add := uint32(0); add < 12; add += uint32(len(s)) {
			change := unlink
			if add/4 != 1 {
				change = nil
			}
			c := cpu(4, dataAt+add, 5, 0xa1b2c3d4)
			for within := range uint32(4) {
				stores(t, name+" $5, 0($4)", linked(c, dataAt+4+within), dataAt+add, s, change)
			}
		}
		ends(t, name+" $5, 0($4)", linked(cpu(4, readAt), readAt), refused(readAt))
	}
	c := cpu(4, dataAt, 5, 0x8192a3b4)
	for _, far := range []uint32{dataAt + 1<<31, dataAt + 1<<30, dataAt - 4, 0} {
		stores(t, "sw $5, 0($4)", linked(c, far), dataAt, "\x81\x92\xa3\xb4", nil)
		stores(t, "swl $5, 0($4)", linked(c, far), dataAt, "\x81\x92\xa3\xb4", nil)
		stores(t, "swr $5, 3($4)", linked(c, far), dataAt, "\x81\x92\xa3\xb4", nil)
	}
	stores(t, "sw $5, 0($4)", linked(c, dataAt), dataAt, "\x81\x92\xa3\xb4", unlink) // though it is the same word again
}

// P11.2: ll, a store and sc, one behind the other.
func TestLinkedPrograms(t *testing.T) {
	for text, want := range map[string]uint32{
		"ll $2, 0($4)\naddiu $2, $2, 1\nsc $2, 0($4)": 1,
		"ll $2, 0($4)\nsw $3, 0($4)\nsc $2, 0($4)":    0,
		"ll $2, 0($4)\nsb $3, 3($4)\nsc $2, 0($4)":    0,
		"ll $2, 0($4)\nswr $3, 1($4)\nsc $2, 0($4)":   0,
		"ll $2, 0($4)\nsw $3, 4($4)\nsc $2, 0($4)":    1,
		"ll $2, 0($4)\nll $3, 4($4)\nsc $2, 0($4)":    0,
		"ll $2, 0($4)\nlw $3, 4($4)\nsc $2, 4($4)":    0,
		"ll $2, 0($4)\nsc $3, 4($4)\nsc $2, 0($4)":    0,
		"ll $2, 0($4)\nsc $3, 0($4)\nsc $2, 0($4)":    0,
		"ll $2, 0($4)\nsyscall\nsc $2, 0($4)":         1,
	} {
		c, g := cpu(4, dataAt), coded(t, world(t), codeAt, text)
		for range 3 {
			c, g, _ = Step(c, g)
		}
		if c.R[2] != want || c.Pc != codeAt+12 || c.Linked {
			t.Errorf("%q: %+v", text, c)
		}
	}
}

// 0.5: what is told shares no memory with what was given, with an event, without one, and behind a store.
func TestOwnMemory(t *testing.T) {
	for _, text := range []string{"addiu $2, $0, 5", "sw $5, 8192($0)", "syscall", "break", "lw $5, 1($0)", "jr $4"} {
		g := coded(t, world(t), codeAt, text)
		given := cloned(g)
		_, got, _ := Step(cpu(), g)
		clear(got.Host.Maps[:cap(got.Host.Maps)])
		clear(got.Host.Cells[:cap(got.Host.Cells)])
		clear(got.Pages[:cap(got.Pages)])
		if !guest.Same(g, given) {
			t.Errorf("%s: what was given shares memory with what is told", text)
		}
	}
}

// 0.1: none panics, and each ends: memories that are not fit, and a register 0 that is not 0.
func TestWrongInputs(t *testing.T) {
	wild := api.Guest{
		Host:  api.Host{Maps: []api.Map{{Page: 9, Prot: -1}, {Page: 1 << 60, Prot: 99}}, Cells: []api.Cell{{At: 3}, {At: 1}}},
		Base:  1<<64 - 1,
		Pages: []api.Page{{N: 1, Prot: 7}, {N: 1, Prot: 7}, {N: 1 << 31, Prot: -5}, {N: 0, Prot: 7}},
	}
	for _, g := range []api.Guest{{}, wild, {Pages: wild.Pages}, {Host: wild.Host}, {Base: 5, Pages: wild.Pages}} {
		for _, c := range []api.Cpu{{}, cpu(), cpu(0, 77), New(minus, 0), New(1<<32-4, 0)} {
			Step(c, g)
		}
	}
}

// The empty memory: nothing is there to be done.
func TestEmptyMemory(t *testing.T) {
	comes(t, "a step", New(0, 0), api.Guest{}, New(0, 0), api.Guest{}, missing(0))
}
