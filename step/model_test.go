package step

import (
	"slices"
	"strings"
	"testing"

	"ferry/alu"
	"ferry/api"
	"ferry/dec"
	"ferry/gmem"
	"ferry/guest"
	"ferry/wide"
)

// names is the instructions of chapter 7.
const names = `sll srl sra sllv srlv srav jr jalr movz movn syscall break mfhi mthi mflo mtlo mult multu div divu add addu sub subu
and or xor nor slt sltu tge tgeu tlt tltu teq tne bltz bgez bltzal bgezal j jal beq bne blez bgtz addi addiu slti sltiu andi ori xori lui
madd maddu mul msub msubu clz clo ext ins wsbh seb seh rdhwr lb lh lwl lw lbu lhu lwr sb sh swl sw swr ll sc rotr rotrv`

// chance hands out numbers by a simple rule.
type chance uint64

func (c *chance) next() uint32 {
	*c = *c*6364136223846793005 + 1442695040888963407
	return uint32(*c >> 32)
}

func (c *chance) below(n uint32) uint32 { return c.next() % n }

func oneOf[T any](c *chance, all ...T) T { return all[c.below(uint32(len(all)))] }

// register is one of few, so that they are often the same.
func (c *chance) register() int { return oneOf(c, 0, 2, 3, 4, 26, 31) }

// instruction is one of a name, its numbers by chance.
func (c *chance) instruction(name string) uint32 {
	for {
		i := api.Ins{Name: name}
		form := dec.Form(name)
		if strings.ContainsAny(form, "s") || form == "tm" || form == "dtv" {
			i.Rs = c.register()
		}
		if strings.Contains(form, "t") {
			i.Rt = c.register()
		}
		if strings.Contains(form, "d") {
			i.Rd = c.register()
		}
		switch form {
		case "dta", "dtr":
			i.Sa = int(c.below(32))
		case "td":
			i.Rd = 29
		case "tsx":
			i.Rd, i.Sa = int(c.below(32)), int(c.below(32))
		case "c":
			i.Imm = c.below(1 << 20)
		case "j":
			i.Imm = c.below(1 << 26)
		case "so", "sto", "tsi", "ti", "tm":
			i.Imm = oneOf(c, c.below(12), 65536-c.below(12)-1, c.below(65536))
		}
		if w, is := dec.Encode(i); is {
			return w
		}
	}
}

// number is an edge, an address near to a page's end, or any.
func (c *chance) number() uint32 {
	switch c.below(4) {
	case 0:
		return oneOf[uint32](c, 0, 1, 2, most, least, minus)
	case 1:
		return c.next()
	}
	return oneOf[uint32](c, 0, codeAt, dataAt, readAt, writeAt, goneAt, runAt, noneAt, noneAt+size, lastAt) + c.below(16) - 8
}

// processor is any, but register 0 is 0.
func (c *chance) processor() api.Cpu {
	p := api.Cpu{Hi: c.next(), Lo: c.next(), Slot: c.below(4) == 0, Link: c.number(), Linked: c.below(2) == 0}
	for r := 1; r < 32; r++ {
		p.R[r] = c.number()
	}
	p.Pc = oneOf[uint32](c, codeAt, codeAt, lastAt, runAt) + c.below(1024)*4
	switch c.below(20) {
	case 0:
		p.Pc = c.number()
	case 1:
		p.Pc++
	case 2:
		p.Pc = -(4 * c.below(3)) // 0, and the last ones below it
	}
	p.Next = oneOf(c, p.Pc+4, c.number())
	if c.below(3) == 0 {
		p.Link = p.R[c.register()] + oneOf[uint32](c, 0, 4, minus)
	}
	return p
}

// model is a processor and a memory as the chapter's sentences say them, step by step; what ends an instruction is told, not thrown.
type model struct {
	api.Cpu
	g    api.Guest
	jump bool   // Next is to
	to   uint32 // where the branch goes
}

func in(name, all string) bool { return slices.Contains(strings.Fields(all), name) }

// wrap is a number of any sign modulo 2^32.
func wrap(n int64) uint32 { return uint32(((n % reach) + reach) % reach) }

func signed(v uint32, bits uint) int64 {
	n := int64(v) % (1 << bits)
	if n >= 1<<(bits-1) {
		n -= 1 << bits
	}
	return n
}

const jumping = "j jal jr jalr beq bne blez bgtz bltz bgez bltzal bgezal"

func (m *model) step() api.Event {
	before := *m
	e := m.instruction()
	if e.Kind != api.EvNone && e.Kind != api.EvCall {
		*m = before
	}
	m.R[0] = 0
	return e
}

func (m *model) instruction() api.Event {
	if m.Pc%4 != 0 {
		return notMultiple(m.Pc)
	}
	w, f := gmem.Fetch(m.g, m.Pc)
	if f.Kind != api.FtNone {
		return api.Event{Kind: api.EvFault, Fault: f}
	}
	i, is := dec.Decode(w)
	if !is || m.Slot && in(i.Name, jumping) {
		return noIns(w)
	}
	e := m.one(i, m.R[i.Rs], m.R[i.Rt])
	m.Pc, m.Next, m.Slot = m.Next, wrap(int64(m.Next)+4), in(i.Name, jumping)
	if m.jump {
		m.Next = m.to
	}
	return e
}

func (m *model) one(i api.Ins, s, t uint32) (e api.Event) {
	switch name := i.Name; {
	case in(name, "tge tgeu tlt tltu teq tne"):
		if alu.Traps(name, s, t) {
			e.Kind = api.EvTrap
		}
	case in(name, "syscall break"):
		e = api.Event{Kind: map[string]int{"syscall": api.EvCall, "break": api.EvBreak}[name], Code: i.Imm}
	case name == "rdhwr":
		m.R[i.Rt] = m.R[26]
	case name == "mfhi":
		m.R[i.Rd] = m.Hi
	case name == "mflo":
		m.R[i.Rd] = m.Lo
	case in(name, "movz movn"):
		if (t == 0) == (name == "movz") {
			m.R[i.Rd] = s
		}
	case in(name, jumping):
		m.branch(i, s, t)
	case in(name, "mult multu div divu madd maddu msub msubu mthi mtlo"):
		m.Hi, m.Lo = wide.Do(name, s, t, m.Hi, m.Lo)
	case dec.Form(name) == "tm" && strings.HasPrefix(name, "l"):
		return m.load(i, wrap(int64(s)+signed(i.Imm, 16)), t)
	case dec.Form(name) == "tm":
		return m.store(i, wrap(int64(s)+signed(i.Imm, 16)), t)
	default:
		v, ok := alu.Do(i, s, t)
		if !ok {
			e.Kind = api.EvOver
		}
		if in(name, "addi addiu slti sltiu andi ori xori lui ext ins") {
			m.R[i.Rt] = v
		} else {
			m.R[i.Rd] = v
		}
	}
	return e
}

func (m *model) branch(i api.Ins, s, t uint32) {
	n := signed(s, 32)
	m.to = wrap(int64(m.Pc) + 4 + 4*signed(i.Imm, 16))
	m.jump = map[string]bool{"beq": s == t, "bne": s != t, "blez": n <= 0, "bgtz": n > 0, "bltz": n < 0, "bltzal": n < 0,
		"bgez": n >= 0, "bgezal": n >= 0, "j": true, "jal": true, "jr": true, "jalr": true}[i.Name]
	behind := wrap(int64(m.Pc) + 8)
	switch i.Name {
	case "jal", "bltzal", "bgezal":
		m.R[31] = behind
	case "jalr":
		m.R[i.Rd] = behind
	}
	switch i.Name {
	case "j", "jal":
		m.to = wrap(int64(m.Pc)+4)>>28<<28 + 4*i.Imm
	case "jr", "jalr":
		m.to = s
	}
}

// asked is how many bytes a load or a store has, and where it begins; those of parts have their word's.
func asked(name string, a uint32) (at uint32, n int) {
	switch {
	case in(name, "lwl lwr swl swr"):
		return a / 4 * 4, 4
	case in(name, "lb lbu sb"):
		return a, 1
	case in(name, "lh lhu sh"):
		return a, 2
	}
	return a, 4
}

// wrong is the event of n bytes that are at no multiple, or may not be so.
func (m *model) wrong(at uint32, n int, right int) api.Event {
	prot := guest.Prot(m.g, at/size)
	switch {
	case at%uint32(n) != 0:
		return notMultiple(at)
	case prot == -1:
		return missing(uint64(at))
	case prot/right%2 == 0:
		return refused(uint64(at))
	}
	return api.Event{}
}

// raw is n bytes, whatever may be read.
func (m *model) raw(at uint32, n int) []byte {
	open, _ := guest.Protect(m.g, at/size, 1, 7)
	s, _ := gmem.Bytes(open, at, uint32(n))
	return []byte(s)
}

func joined(b []byte) (v uint32) {
	for _, x := range b {
		v = v*256 + uint32(x)
	}
	return v
}

func parted(v uint32) []byte { return []byte{byte(v >> 24), byte(v >> 16), byte(v >> 8), byte(v)} }

func (m *model) load(i api.Ins, a, t uint32) api.Event {
	at, n := asked(i.Name, a)
	if e := m.wrong(at, n, api.PrRead); e.Kind != api.EvNone {
		return e
	}
	b, old := m.raw(at, n), parted(t)
	switch i.Name {
	case "lb":
		m.R[i.Rt] = wrap(signed(joined(b), 8))
	case "lh":
		m.R[i.Rt] = wrap(signed(joined(b), 16))
	case "lwl":
		copy(old, b[a%4:])
		m.R[i.Rt] = joined(old)
	case "lwr":
		copy(old[3-a%4:], b[:a%4+1])
		m.R[i.Rt] = joined(old)
	case "ll":
		m.Link, m.Linked = a, true
		fallthrough
	default:
		m.R[i.Rt] = joined(b)
	}
	return api.Event{}
}

func (m *model) store(i api.Ins, a, t uint32) api.Event {
	at, n := asked(i.Name, a)
	linked := m.Linked && m.Link == a
	if i.Name == "sc" && a%4 == 0 && !linked {
		m.R[i.Rt], m.Linked = 0, false
		return api.Event{}
	}
	for _, right := range map[bool][]int{true: {api.PrRead, api.PrWrite}, false: {api.PrWrite}}[strings.HasPrefix(i.Name, "sw") && i.Name != "sw"] {
		if e := m.wrong(at, n, right); e.Kind != api.EvNone {
			return e
		}
	}
	b, reg := m.raw(at, n), parted(t)
	switch i.Name {
	case "swl":
		copy(b[a%4:], reg)
	case "swr":
		copy(b[:a%4+1], reg[3-a%4:])
	case "sc":
		m.R[i.Rt] = 1
		fallthrough
	default:
		copy(b, reg[4-n:])
	}
	m.g, _ = gmem.Poke(m.g, at, string(b))
	if m.Link/4*4 == at/4*4 {
		m.Linked = false
	}
	return api.Event{}
}

// P11.2: each instruction at processors by chance, and words that are mostly none's, against the model.
func TestStepAgainstModel(t *testing.T) {
	c := chance(11)
	w := world(t)
	all := strings.Fields(names)
	if len(all) != 83 {
		t.Fatalf("the test's own names: %d", len(all))
	}
	kinds := map[int]int{}
	for n := range 60 * (len(all) + 1) {
		p := c.processor()
		word := c.next()
		if n%(len(all)+1) > 0 {
			word = c.instruction(all[n%(len(all)+1)-1])
		}
		g := w
		if p.Pc < 1<<32-3 {
			g, _ = gmem.Poke(w, p.Pc, string(parted(word)))
		}
		m := model{Cpu: p, g: g}
		e := m.step()
		i, _ := dec.Decode(word)
		comes(t, i.Name, p, g, m.Cpu, m.g, e)
		kinds[e.Kind]++
		if t.Failed() {
			t.Fatalf("%+v at %+v", i, p)
		}
	}
	for _, kind := range []int{api.EvNone, api.EvCall, api.EvBreak, api.EvTrap, api.EvOver, api.EvAlign, api.EvFault, api.EvNoIns} {
		if kinds[kind] < 5 {
			t.Errorf("of kind %d only %d came", kind, kinds[kind])
		}
	}
}

// held holds that of two memories pages, and what is out of reach, are the same, and that bytes differ just on pages that may be written.
func held(t *testing.T, before, after api.Guest) {
	t.Helper()
	if !guest.Fit(after) || after.Base != before.Base || !slices.Equal(after.Pages, before.Pages) || !slices.Equal(after.Host.Maps, before.Host.Maps) {
		t.Fatal("pages have changed")
	}
	cells := map[uint64]uint64{}
	for _, x := range before.Host.Cells {
		cells[x.At] = x.Word
	}
	for _, x := range after.Host.Cells {
		cells[x.At] ^= x.Word
	}
	for at, differs := range cells {
		if differs == 0 {
			continue
		}
		if at < base || at >= base+reach || guest.Prot(before, uint32((at-base)/size))&api.PrWrite == 0 {
			t.Fatalf("the byte of the host at %#x has changed", at)
		}
	}
}

// P11.3, P11.4, P11.5: programs by chance: register 0, what is as it was beside an event, slots, pages, and what is out of reach.
func TestPrograms(t *testing.T) {
	c := chance(115)
	all := strings.Fields(names)
	for range 60 {
		g := world(t)
		for _, page := range []uint32{codeAt, lastAt, runAt} {
			var code []byte
			for range size / 4 {
				code = append(code, parted(c.instruction(oneOf(&c, all...)))...)
			}
			g = poked(t, g, page, string(code))
		}
		p := c.processor()
		for range 40 {
			after, h, e := Step(p, g)
			held(t, g, h)
			if after.R[0] != 0 {
				t.Fatalf("register 0 is %#x", after.R[0])
			}
			if e.Kind != api.EvNone && e.Kind != api.EvCall {
				if after != p || !guest.Same(g, h) {
					t.Fatalf("%+v: %+v; it was %+v", e, after, p)
				}
				p = c.processor() // it would end so again
				continue
			}
			if after.Pc != p.Next || p.Slot && (after.Slot || after.Next != after.Pc+4) {
				t.Fatalf("behind a slot: %+v; it was %+v", after, p)
			}
			p, g = after, h
		}
	}
}
