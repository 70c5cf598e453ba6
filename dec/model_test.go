package dec

import (
	"strconv"
	"strings"
	"testing"

	"ferry/api"
)

// chapter is the instructions as the document lists them: name, operation, function, form.
const chapter = `sll 0 0 dta; srl 0 2 dta; sra 0 3 dta; sllv 0 4 dts; srlv 0 6 dts; srav 0 7 dts;
jr 0 8 s; jalr 0 9 ds; movz 0 10 dst; movn 0 11 dst; syscall 0 12 c; break 0 13 c;
mfhi 0 16 d; mthi 0 17 s; mflo 0 18 d; mtlo 0 19 s; mult 0 24 st; multu 0 25 st;
div 0 26 st; divu 0 27 st; add 0 32 dst; addu 0 33 dst; sub 0 34 dst; subu 0 35 dst;
and 0 36 dst; or 0 37 dst; xor 0 38 dst; nor 0 39 dst; slt 0 42 dst; sltu 0 43 dst;
tge 0 48 st; tgeu 0 49 st; tlt 0 50 st; tltu 0 51 st; teq 0 52 st; tne 0 54 st;
bltz 1 0 so; bgez 1 1 so; bltzal 1 16 so; bgezal 1 17 so; j 2 0 j; jal 3 0 j;
beq 4 0 sto; bne 5 0 sto; blez 6 0 so; bgtz 7 0 so; addi 8 0 tsi; addiu 9 0 tsi;
slti 10 0 tsi; sltiu 11 0 tsi; andi 12 0 tsi; ori 13 0 tsi; xori 14 0 tsi; lui 15 0 ti;
madd 28 0 st; maddu 28 1 st; mul 28 2 dst; msub 28 4 st; msubu 28 5 st; clz 28 32 dsd;
clo 28 33 dsd; ext 31 0 tsx; ins 31 4 tsx; wsbh 31 32/2 dt; seb 31 32/16 dt; seh 31 32/24 dt;
rdhwr 31 59 td; lb 32 0 tm; lh 33 0 tm; lwl 34 0 tm; lw 35 0 tm; lbu 36 0 tm;
lhu 37 0 tm; lwr 38 0 tm; sb 40 0 tm; sh 41 0 tm; swl 42 0 tm; sw 43 0 tm;
swr 46 0 tm; ll 48 0 tm; sc 56 0 tm; rotr 0 2 dtr; rotrv 0 6 dtv`

// drawings are the forms' words bit by bit, the highest first: o the operation, f the function, 2 the second number, s t d a the fields, T a field rt that is rd's, i Imm.
var drawings = map[string]string{
	"dst": "oooooo sssss ttttt ddddd 00000 ffffff",
	"dta": "oooooo 00000 ttttt ddddd aaaaa ffffff",
	"dtr": "oooooo 00001 ttttt ddddd aaaaa ffffff",
	"dts": "oooooo sssss ttttt ddddd 00000 ffffff",
	"dtv": "oooooo sssss ttttt ddddd 00001 ffffff",
	"ds":  "oooooo sssss 00000 ddddd 00000 ffffff",
	"dsd": "oooooo sssss TTTTT ddddd 00000 ffffff",
	"dt":  "oooooo 00000 ttttt ddddd 22222 ffffff",
	"td":  "oooooo 00000 ttttt ddddd 00000 ffffff",
	"d":   "oooooo 00000 00000 ddddd 00000 ffffff",
	"s":   "oooooo sssss 00000 00000 00000 ffffff",
	"st":  "oooooo sssss ttttt 00000 00000 ffffff",
	"c":   "oooooo iiiii iiiii iiiii iiiii ffffff",
	"so":  "oooooo sssss 22222 iiiii iiiii iiiiii",
	"sto": "oooooo sssss ttttt iiiii iiiii iiiiii",
	"j":   "oooooo iiiii iiiii iiiii iiiii iiiiii",
	"tsi": "oooooo sssss ttttt iiiii iiiii iiiiii",
	"ti":  "oooooo 00000 ttttt iiiii iiiii iiiiii",
	"tm":  "oooooo sssss ttttt iiiii iiiii iiiiii",
	"tsx": "oooooo sssss ttttt ddddd aaaaa ffffff",
}

// kind is an instruction of the document's list, with its drawing.
type kind struct {
	name, form           string
	op, function, second int
	drawn                string
}

func number(t testing.TB, s string) int {
	t.Helper()
	n, err := strconv.Atoi(s)
	if err != nil {
		t.Fatalf("the test's own list: %v", err)
	}
	return n
}

// kinds are all of the document's list.
func kinds(t testing.TB) []kind {
	t.Helper()
	var out []kind
	for _, text := range strings.Split(chapter, ";") {
		f := strings.Fields(text)
		k := kind{name: f[0], op: number(t, f[1]), form: f[3]}
		function, second, _ := strings.Cut(f[2], "/")
		k.function = number(t, function)
		if second != "" {
			k.second = number(t, second)
		}
		if k.op == 1 {
			k.function, k.second = 0, k.function
		}
		k.drawn = strings.ReplaceAll(drawings[k.form], " ", "")
		if len(k.drawn) != 32 {
			t.Fatalf("the test's own drawing of %s: %s", k.form, k.drawn)
		}
		out = append(out, k)
	}
	if len(out) != 83 {
		t.Fatalf("the test's own list has %d", len(out))
	}
	return out
}

// bitsOf are the numbers that a word has at a drawing's letters; false: a bit that is drawn as 0 or 1 is the other one.
func (k kind) bitsOf(w uint32) (map[byte]int, bool) {
	n := map[byte]int{}
	for at := range 32 {
		letter, bit := k.drawn[at], int(w>>(31-at)&1)
		if letter == '0' && bit == 1 || letter == '1' && bit == 0 {
			return nil, false
		}
		n[letter] = n[letter]*2 + bit
	}
	return n, true
}

// may tells whether fields may stand together.
func (k kind) may(rd, sa int) bool {
	return (k.form != "td" || rd == 29) && (k.name != "ext" || rd+sa <= 31) && (k.name != "ins" || sa <= rd)
}

// decode is the kind's instruction of a word.
func (k kind) decode(w uint32) (api.Ins, bool) {
	n, ok := k.bitsOf(w)
	if !ok || n['o'] != k.op || n['f'] != k.function || n['2'] != k.second || !k.may(n['d'], n['a']) {
		return api.Ins{}, false
	}
	if strings.Contains(k.drawn, "T") && n['T'] != n['d'] {
		return api.Ins{}, false
	}
	return api.Ins{Name: k.name, Rs: n['s'], Rt: n['t'], Rd: n['d'], Sa: n['a'], Imm: uint32(n['i'])}, true
}

// encode is the kind's word of an instruction.
func (k kind) encode(i api.Ins) (uint32, bool) {
	left := map[byte]int{'o': k.op, 'f': k.function, '2': k.second, 's': i.Rs, 't': i.Rt, 'd': i.Rd, 'a': i.Sa, 'i': int(i.Imm), 'T': i.Rd}
	var w uint32
	for at := 31; at >= 0; at-- {
		bit := int(k.drawn[at] - '0')
		if bit > 1 {
			bit = left[k.drawn[at]] & 1
			left[k.drawn[at]] >>= 1
		}
		w |= uint32(bit) << (31 - at)
	}
	for letter, n := range left {
		// What is left of a number is what had no bit, and of one below 0 there is always something.
		if n != 0 && letter != 'T' {
			return 0, false
		}
	}
	return w, k.may(i.Rd, i.Sa)
}

// model is what Decode must answer.
func model(t testing.TB, all []kind, w uint32) (api.Ins, bool) {
	t.Helper()
	var out api.Ins
	n := 0
	for _, k := range all {
		if int(w>>26) != k.op {
			continue
		}
		if i, ok := k.decode(w); ok {
			out = i
			n++
		}
	}
	if n > 1 {
		t.Fatalf("the test's own model: %#x has %d instructions", w, n)
	}
	return out, n == 1
}

// chance hands out numbers by a simple rule.
type chance uint64

func (c *chance) next() uint32 {
	*c = *c*6364136223846793005 + 1442695040888963407
	return uint32(*c >> 32)
}

// checkWord holds Decode of a word against the model, and, if there is an instruction, Encode of that against the word.
func checkWord(t *testing.T, all []kind, w uint32) bool {
	t.Helper()
	want, is := model(t, all, w)
	i, ok := Decode(w)
	if i != want || ok != is {
		t.Fatalf("Decode(%#x): %v, %v; want %v, %v", w, i, ok, want, is)
	}
	if back, can := Encode(i); ok && (!can || back != w) {
		t.Fatalf("Encode(%v): %#x, %v; want %#x", i, back, can, w)
	}
	return ok
}

// P7.2, P7.4: words of each operation with each function, and with fields that are 0, 1, 2, 29 and 31 or others by chance, decode as they are drawn, and encode to themselves.
func TestWordsAgainstModel(t *testing.T) {
	all := kinds(t)
	var c chance
	few := []uint32{0, 0, 1, 2, 16, 17, 24, 29, 31}
	is := 0
	for op := range uint32(64) {
		for function := range uint32(64) {
			for range 40 {
				w := op<<26 | function
				for at := 6; at < 26; at += 5 {
					n := c.next() % 32
					if c.next()%4 > 0 {
						n = few[c.next()%uint32(len(few))]
					}
					w |= n << at
				}
				if checkWord(t, all, w) {
					is++
				}
			}
		}
	}
	if is < 1000 {
		t.Errorf("only %d words were instructions'", is)
	}
}

// P7.2, P7.4: a word of each instruction, with each of its bits changed, and any two of them.
func TestChangedBitsAgainstModel(t *testing.T) {
	all := kinds(t)
	c := chance(7)
	for _, k := range all {
		for range 2 {
			w, ok := k.encode(k.some(&c))
			if !ok {
				t.Fatalf("the test's own %s can't be", k.name)
			}
			if !checkWord(t, all, w) {
				t.Fatalf("the test's own word of %s: %#x", k.name, w)
			}
			for a := range 32 {
				for b := range a + 1 {
					checkWord(t, all, w^(1<<a|1<<b))
				}
			}
		}
	}
}

// some is an instruction of the kind, by chance.
func (k kind) some(c *chance) api.Ins {
	for {
		w := c.next()
		n, _ := kind{drawn: strings.NewReplacer("0", ".", "1", ".").Replace(k.drawn)}.bitsOf(w)
		i := api.Ins{Name: k.name, Rs: n['s'], Rt: n['t'], Rd: n['d'], Sa: n['a'], Imm: uint32(n['i'])}
		if k.form == "td" {
			i.Rd = 29
		}
		if k.may(i.Rd, i.Sa) {
			return i
		}
	}
}

// P7.3, P7.4: instructions of each name, with fields in their bits and out of them, encode as they are drawn, and decode to themselves.
func TestInstructionsAgainstModel(t *testing.T) {
	odd := []int{-1 << 63, -1 << 32, -32, -1, 0, 1, 29, 31, 32, 33, 63, 64, 1 << 11, 1 << 31, 1<<32 - 1, 1 << 32, 1<<32 + 1, 1<<63 - 1}
	great := []uint32{0, 1, 1<<15 - 1, 1 << 15, 1<<16 - 1, 1 << 16, 1<<20 - 1, 1 << 20, 1<<26 - 1, 1 << 26, 1 << 31, 1<<32 - 1}
	c := chance(3)
	for _, k := range kinds(t) {
		for range 400 {
			i := k.some(&c)
			for range c.next() % 3 {
				n := odd[c.next()%uint32(len(odd))]
				switch c.next() % 5 {
				case 0:
					i.Rs = n
				case 1:
					i.Rt = n
				case 2:
					i.Rd = n
				case 3:
					i.Sa = n
				default:
					i.Imm = great[c.next()%uint32(len(great))]
				}
			}
			want, can := k.encode(i)
			if !can {
				want = 0
			}
			w, ok := Encode(i)
			if w != want || ok != can {
				t.Fatalf("Encode(%v): %#x, %v; want %#x, %v", i, w, ok, want, can)
			}
			if back, is := Decode(w); ok && (!is || back != i) {
				t.Fatalf("Decode(%#x): %v, %v; want %v", w, back, is, i)
			}
		}
	}
}
