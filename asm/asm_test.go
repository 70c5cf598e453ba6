package asm

import (
	"math"
	"strings"
	"testing"

	"ferry/api"
	"ferry/swap"
)

// is holds an instruction and its text against each other, there and back.
func is(t *testing.T, text string, want api.Ins) {
	t.Helper()
	if s := Line(want); s != text {
		t.Errorf("Line(%v): %q; want %q", want, s, text)
	}
	if i, e := Parse(text); e != api.OK || i != want {
		t.Errorf("Parse(%q): %v, %v; want %v", text, i, e, want)
	}
}

// isNone holds that texts are no instruction's.
func isNone(t *testing.T, texts ...string) {
	t.Helper()
	for _, s := range texts {
		if i, e := Parse(s); e != api.ErrSyntax || i != (api.Ins{}) {
			t.Errorf("Parse(%q): %v, %v; want ErrSyntax", s, i, e)
		}
	}
}

// assembles holds that a text has just these bytes.
func assembles(t *testing.T, text, want string) {
	t.Helper()
	if code, n, e := Assemble(text); code != want || n != 0 || e != api.OK {
		t.Errorf("Assemble(%q): %q, %d, %v; want %q", text, code, n, e, want)
	}
}

// wrongAt holds that a text's first wrong line is that of a number.
func wrongAt(t *testing.T, text string, want int) {
	t.Helper()
	if code, n, e := Assemble(text); code != "" || n != want || e != api.ErrSyntax {
		t.Errorf("Assemble(%q): %q, %d, %v; want ErrSyntax at %d", text, code, n, e, want)
	}
}

// P8.1, P8.2: the chapter's examples, and those of the document's whole.
func TestExamples(t *testing.T) {
	is(t, "addu $2, $4, $5", api.Ins{Name: "addu", Rd: 2, Rs: 4, Rt: 5})
	is(t, "lw $8, -4($29)", api.Ins{Name: "lw", Rt: 8, Rs: 29, Imm: 65532})
	is(t, "lw $8, 16($29)", api.Ins{Name: "lw", Rt: 8, Rs: 29, Imm: 16})
	is(t, "syscall", api.Ins{Name: "syscall"})
	is(t, "addiu $2, $0, 4001", api.Ins{Name: "addiu", Rt: 2, Imm: 4001})
}

// P8.1, P8.2: an instruction of each form, whose numbers are all other ones.
func TestForms(t *testing.T) {
	is(t, "subu $1, $2, $3", api.Ins{Name: "subu", Rd: 1, Rs: 2, Rt: 3})
	is(t, "sll $1, $2, 3", api.Ins{Name: "sll", Rd: 1, Rt: 2, Sa: 3})
	is(t, "rotr $1, $2, 31", api.Ins{Name: "rotr", Rd: 1, Rt: 2, Sa: 31})
	is(t, "srav $1, $2, $3", api.Ins{Name: "srav", Rd: 1, Rt: 2, Rs: 3})
	is(t, "rotrv $1, $2, $3", api.Ins{Name: "rotrv", Rd: 1, Rt: 2, Rs: 3})
	is(t, "jalr $31, $25", api.Ins{Name: "jalr", Rd: 31, Rs: 25})
	is(t, "clz $1, $2", api.Ins{Name: "clz", Rd: 1, Rs: 2})
	is(t, "seb $1, $2", api.Ins{Name: "seb", Rd: 1, Rt: 2})
	is(t, "rdhwr $3, $29", api.Ins{Name: "rdhwr", Rt: 3, Rd: 29})
	is(t, "mfhi $1", api.Ins{Name: "mfhi", Rd: 1})
	is(t, "jr $31", api.Ins{Name: "jr", Rs: 31})
	is(t, "mult $16, $17", api.Ins{Name: "mult", Rs: 16, Rt: 17})
	is(t, "break 7", api.Ins{Name: "break", Imm: 7})
	is(t, "jal 1048577", api.Ins{Name: "jal", Imm: 1048577})
	is(t, "bgezal $4, -3", api.Ins{Name: "bgezal", Rs: 4, Imm: 65533})
	is(t, "blez $4, 3", api.Ins{Name: "blez", Rs: 4, Imm: 3})
	is(t, "beq $4, $5, -2", api.Ins{Name: "beq", Rs: 4, Rt: 5, Imm: 65534})
	is(t, "slti $1, $2, -1", api.Ins{Name: "slti", Rt: 1, Rs: 2, Imm: 65535})
	is(t, "ori $1, $2, 65535", api.Ins{Name: "ori", Rt: 1, Rs: 2, Imm: 65535})
	is(t, "lui $28, 66", api.Ins{Name: "lui", Rt: 28, Imm: 66})
	is(t, "sw $1, 2($3)", api.Ins{Name: "sw", Rt: 1, Rs: 3, Imm: 2})
	is(t, "ext $1, $2, 3, 4", api.Ins{Name: "ext", Rt: 1, Rs: 2, Sa: 3, Rd: 4})
	is(t, "ins $1, $2, 3, 4", api.Ins{Name: "ins", Rt: 1, Rs: 2, Sa: 3, Rd: 4})
}

// P8.1: an instruction that can't be has no text.
func TestLineOfWhatCannotBe(t *testing.T) {
	for _, i := range []api.Ins{
		{}, {Name: "nop"}, {Name: "Addu"}, {Name: "addu "}, {Name: ".word"}, {Name: "addu $2, $4, $5"}, {Name: "\xff"},
		{Name: "addu", Rd: 32}, {Name: "addu", Rs: -1}, {Name: "addu", Rt: math.MaxInt}, {Name: "addu", Rt: math.MinInt},
		{Name: "addu", Sa: 1}, {Name: "addu", Imm: 1}, {Name: "sll", Rs: 1}, {Name: "sll", Sa: 32}, {Name: "jr", Rt: 1},
		{Name: "clz", Rd: 3, Rt: 3}, {Name: "rdhwr", Rt: 3}, {Name: "rdhwr", Rt: 3, Rd: 28},
		{Name: "ext", Sa: 16, Rd: 16}, {Name: "ins", Sa: 2, Rd: 1},
		{Name: "syscall", Imm: 1 << 20}, {Name: "syscall", Rs: 1}, {Name: "j", Imm: 1 << 26}, {Name: "lui", Rs: 1},
		{Name: "addiu", Imm: 65536}, {Name: "addiu", Imm: math.MaxUint32}, {Name: "ori", Imm: 65536}, {Name: "lw", Imm: 0xffff8000}, {Name: "beq", Imm: 65536},
	} {
		if s := Line(i); s != "" {
			t.Errorf("Line(%v): %q; want none", i, s)
		}
	}
}

// P8.1, P8.2: nothing stands behind a name of the form c with 0.
func TestCode(t *testing.T) {
	for _, name := range []string{"syscall", "break"} {
		is(t, name, api.Ins{Name: name})
		is(t, name+" 1", api.Ins{Name: name, Imm: 1})
		is(t, name+" 1048575", api.Ins{Name: name, Imm: 1<<20 - 1})
		isNone(t, name+" ", name+" 0", name+" 00", name+" 01", name+" -1", name+" 1048576", name+" 4294967297", name+" $1", name+", 1")
	}
}

// P8.1, P8.2: a target of 0 is written, as only c leaves it out.
func TestTarget(t *testing.T) {
	is(t, "j 0", api.Ins{Name: "j"})
	is(t, "jal 67108863", api.Ins{Name: "jal", Imm: 1<<26 - 1})
	isNone(t, "j", "j ", "j -0", "j -1", "jal 67108864", "j 4294967296", "j 18446744073709551616", "j 0x10")
}

// P8.1, P8.2: Imm with its sign, at the edges of 16 bits.
func TestImmWithSign(t *testing.T) {
	edges := []struct {
		imm  uint32
		text string
	}{{0, "0"}, {1, "1"}, {32767, "32767"}, {32768, "-32768"}, {65535, "-1"}}
	for _, edge := range edges {
		is(t, "addi $1, $2, "+edge.text, api.Ins{Name: "addi", Rt: 1, Rs: 2, Imm: edge.imm})
		is(t, "sltiu $1, $2, "+edge.text, api.Ins{Name: "sltiu", Rt: 1, Rs: 2, Imm: edge.imm})
		is(t, "lb $1, "+edge.text+"($2)", api.Ins{Name: "lb", Rt: 1, Rs: 2, Imm: edge.imm})
		is(t, "sc $1, "+edge.text+"($2)", api.Ins{Name: "sc", Rt: 1, Rs: 2, Imm: edge.imm})
		is(t, "bltz $1, "+edge.text, api.Ins{Name: "bltz", Rs: 1, Imm: edge.imm})
		is(t, "bgtz $1, "+edge.text, api.Ins{Name: "bgtz", Rs: 1, Imm: edge.imm})
		is(t, "bne $1, $2, "+edge.text, api.Ins{Name: "bne", Rs: 1, Rt: 2, Imm: edge.imm})
	}
	for _, out := range []string{"32768", "65535", "65536", "-32769", "-65535", "-65536", "4294967295", "4294967296", "-0", "+1", "--1", "-", "", "1-", "9223372036854775807", "9223372036854775808", "-9223372036854775808"} {
		isNone(t, "addi $1, $2, "+out, "sltiu $1, $2, "+out, "lb $1, "+out+"($2)", "sc $1, "+out+"($2)", "bltz $1, "+out, "bgtz $1, "+out, "bne $1, $2, "+out)
	}
}

// P8.1, P8.2: Imm of andi, ori, xori and lui without a sign, at the edges of 16 bits.
func TestImmWithoutSign(t *testing.T) {
	edges := []struct {
		imm  uint32
		text string
	}{{0, "0"}, {1, "1"}, {32767, "32767"}, {32768, "32768"}, {65535, "65535"}}
	for _, edge := range edges {
		for _, name := range []string{"andi", "ori", "xori"} {
			is(t, name+" $1, $2, "+edge.text, api.Ins{Name: name, Rt: 1, Rs: 2, Imm: edge.imm})
		}
		is(t, "lui $1, "+edge.text, api.Ins{Name: "lui", Rt: 1, Imm: edge.imm})
	}
	for _, out := range []string{"-1", "-32768", "-0", "+1", "65536", "131071", "4294967295", "4294967296", ""} {
		isNone(t, "andi $1, $2, "+out, "ori $1, $2, "+out, "xori $1, $2, "+out, "lui $1, "+out)
	}
}

// P8.2: texts that are almost an instruction's.
func TestAlmost(t *testing.T) {
	isNone(t, "", " ", "\n", "$", ",", "0", "-", "(", "\x00", "\xff",
		" addu $2, $4, $5", "addu  $2, $4, $5", "addu $2,  $4, $5", "addu $2 , $4, $5", "addu $ 2, $4, $5", "addu $2, $4, $5 ", "addu\t$2, $4, $5",
		"addu$2, $4, $5", "addu $2,$4, $5", "addu $2, $4,$5", "addu $2 $4 $5", "addu $2,, $4, $5", "addu $2; $4; $5",
		"addu $2, $4, $5\n", "addu $2, $4, $5\r", "addu $2, $4, $5\x00", "addu $2, $4, $5, $6", "addu $2, $4, $5,", "addu $2, $4, $5, ", "addu $2, $4, $5 # sum", "addu $2, $4, $5; syscall", "addu $2, $4, $55", "addu $2, $4, $50",
		"addu", "addu ", "addu $", "addu $2", "addu $2,", "addu $2, ", "addu $2, $4", "addu $2, $4, ", "addu $2, $4, $",
		"addu $+2, $4, $5", "addu $-2, $4, $5", "addu $-0, $4, $5", "addu $02, $4, $5", "addu $2, $04, $5", "addu $2, $4, $00", "addu $2, $4, $05",
		"addu $32, $4, $5", "addu $2, $32, $5", "addu $2, $4, $32", "addu $2, $4, $4294967296", "addu $2, $4, $18446744073709551616", "addu $2, $4, $1_0", "addu $2, $4, $0x5",
		"addu 2, $4, $5", "addu $2, 4, $5", "addu $2, $4, 5", "addu $$2, $4, $5", "addu r2, r4, r5", "addu $v0, $a0, $a1", "addu $s, $t, $d",
		"Addu $2, $4, $5", "ADDU $2, $4, $5", "adduu $2, $4, $5", "add u $2, $4, $5", "ad $2, $4, $5", "nop", "move $2, $4", "none $2, $4, $5", "$2, $4, $5",
		".word 0x00851021", "00000000: addu $2, $4, $5", "# addu $2, $4, $5", "#", "addu: addu $2, $4, $5")
	isNone(t,
		"lw $8, 4 ($29)", "lw $8, 4( $29)", "lw $8, 4($29 )", "lw $8,4($29)", "lw $8, ($29)", "lw $8, 4(29)", "lw $8, 4$29", "lw $8, 4($29", "lw $8, 4$29)", "lw $8, 4($29))", "lw $8, 4($29) ", "lw $8, 4($29), 1",
		"lw $8, 4", "lw $8, $29", "lw $8, $29, 4", "lw $8, 4($32)", "lw $32, 4($29)", "lw 8, 4($29)", "lw $8, 04($29)", "lw $8, +4($29)", "lw $8, -04($29)", "lw $8, - 4($29)", "lw $8, 0x4($29)",
		"sll $1, $2, $3", "sll $1, $2, 32", "sll $1, $2, -1", "sll $1, $2, 03", "sllv $1, $2, 3", "rotr $1, $2, 32",
		"jalr $25", "jr", "jr 31", "jr $31, $0", "mfhi", "mfhi $1, $2", "mult $16", "mult $1, $2, $3", "clz $1", "clz $1, $2, $1",
		"rdhwr $3, $28", "rdhwr $3, 29", "rdhwr $3", "rdhwr $29, $3",
		"ext $1, $2, 16, 16", "ext $1, $2, 31, 1", "ext $1, $2, 0, 32", "ext $1, $2, $3, $4", "ext $1, $2, 3, $4", "ext $1, $2, 3",
		"ins $1, $2, 2, 1", "ins $1, $2, 32, 32", "ins $1, $2, 0, 32", "ins $1, $2, 3, $4",
		"beq $1, 2", "beq $1, $2, $3", "blez $1", "blez 4, 1", "lui $1, $2", "lui $1, $0, 5", "lui $1", "addiu $1, 5", "addiu $1, $2, $3", "addiu $1, $2")
}

// P8.2: bits of ext and ins, up to their bounds.
func TestBitsOfExtAndIns(t *testing.T) {
	is(t, "ext $1, $2, 0, 31", api.Ins{Name: "ext", Rt: 1, Rs: 2, Rd: 31})
	is(t, "ext $1, $2, 31, 0", api.Ins{Name: "ext", Rt: 1, Rs: 2, Sa: 31})
	is(t, "ext $1, $2, 15, 16", api.Ins{Name: "ext", Rt: 1, Rs: 2, Sa: 15, Rd: 16})
	is(t, "ins $1, $2, 31, 31", api.Ins{Name: "ins", Rt: 1, Rs: 2, Sa: 31, Rd: 31})
	is(t, "ins $1, $2, 0, 0", api.Ins{Name: "ins", Rt: 1, Rs: 2})
}

// P8.3: Listing of no bytes up to five.
func TestListing(t *testing.T) {
	for _, c := range []struct {
		code string
		at   uint32
		want string
	}{
		{"", 0, ""},
		{"", 0xffffffff, ""},
		{"\xff", 0, "00000000: .word 0xff\n"},
		{"\x00", 0, "00000000: .word 0x00\n"},
		{"\x0c", 0, "00000000: .word 0x0c\n"},
		{"\xab\x01", 4, "00000004: .word 0xab01\n"},
		{"\x00\x00\x0c", 0xabcdef, "00abcdef: .word 0x00000c\n"},
		{"\x00\x00\x00\x0c", 0x400000, "00400000: syscall\n"},
		{"\x00\x00\x00\x00", 0, "00000000: sll $0, $0, 0\n"},
		{"\x00\x85\x10\x21\x00", 0x1000, "00001000: addu $2, $4, $5\n00001004: .word 0x00\n"},
		{"\x24\x04\x00\x07\x24\x02\x0f\xa1", 0x400000, "00400000: addiu $4, $0, 7\n00400004: addiu $2, $0, 4001\n"},
		{"\xff\xff\xff\xff\x8f\xa8\xff\xfc", 0x7fffffff, "7fffffff: .word 0xffffffff\n80000003: lw $8, -4($29)\n"},
		{"\x00\x85\x10\x61\x00\x43\x19\x42", 1, "00000001: .word 0x00851061\n00000005: .word 0x00431942\n"},
	} {
		if s := Listing(c.code, c.at); s != c.want {
			t.Errorf("Listing(%q, %#x): %q; want %q", c.code, c.at, s, c.want)
		}
	}
}

// P8.3: the address goes past 2^32.
func TestListingPastTheLastAddress(t *testing.T) {
	want := "fffffff8: syscall\nfffffffc: syscall\n00000000: syscall\n00000004: .word 0x0c\n"
	if s := Listing("\x00\x00\x00\x0c\x00\x00\x00\x0c\x00\x00\x00\x0c\x0c", 0xfffffff8); s != want {
		t.Errorf("%q; want %q", s, want)
	}
	want = "ffffffff: syscall\n00000003: syscall\n"
	if s := Listing("\x00\x00\x00\x0c\x00\x00\x00\x0c", 0xffffffff); s != want {
		t.Errorf("%q; want %q", s, want)
	}
}

// P8.3: texts without words.
func TestAssembleNothing(t *testing.T) {
	for _, s := range []string{"", "\n", "\n\n\n", "#", "#\n", "# a: syscall", "#syscall\n\n# .word\n", "#: none", "##\n#\n\n#", "#\x00\xff"} {
		assembles(t, s, "")
	}
}

// P8.3: lines with words, with and without what stands ahead of ": ", and with and without a byte 10 at the end.
func TestAssemble(t *testing.T) {
	assembles(t, "addu $2, $4, $5", "\x00\x85\x10\x21")
	assembles(t, "addu $2, $4, $5\n", "\x00\x85\x10\x21")
	assembles(t, "addiu $4, $0, 7\naddiu $2, $0, 4001\nsyscall", "\x24\x04\x00\x07\x24\x02\x0f\xa1\x00\x00\x00\x0c")
	assembles(t, "\n# so\nsyscall\n\n#\nbreak 1\n\n", "\x00\x00\x00\x0c\x00\x00\x00\x4d")
	assembles(t, "00400000: lw $8, 16($29)\n", "\x8f\xa8\x00\x10")
	assembles(t, ": syscall", "\x00\x00\x00\x0c")
	assembles(t, "what stands here: syscall\n.word 0x12: break", "\x00\x00\x00\x0c\x00\x00\x00\x0d")
	assembles(t, "a:b:: syscall", "\x00\x00\x00\x0c")
	assembles(t, "a #: syscall", "\x00\x00\x00\x0c")
	assembles(t, "\xff: .word 0xff", "\xff")
}

// P8.3: bytes of 2, 4, 6 and 8 digits, whether they are an instruction's or not.
func TestAssembleBytes(t *testing.T) {
	assembles(t, ".word 0xff", "\xff")
	assembles(t, ".word 0x00", "\x00")
	assembles(t, ".word 0x0a1b", "\x0a\x1b")
	assembles(t, ".word 0x00000c\n", "\x00\x00\x0c")
	assembles(t, ".word 0x12345678", "\x12\x34\x56\x78")
	assembles(t, ".word 0x9abcdef0", "\x9a\xbc\xde\xf0")
	assembles(t, ".word 0x00851021", "\x00\x85\x10\x21")
	assembles(t, "0: .word 0xff\n1: syscall\n5: .word 0x0102", "\xff\x00\x00\x00\x0c\x01\x02")
}

// P8.3: lines that are neither.
func TestAssembleWrong(t *testing.T) {
	for _, s := range []string{
		".word 0x", ".word 0x0", ".word 0x000", ".word 0x00000", ".word 0x0000000", ".word 0x000000000", ".word 0x0000000000", ".word 0x0000000000000000",
		".word 0xFF", ".word 0xfF", ".word 0XFF", ".word 0Xff", ".word ff", ".word 12", ".word $ff", ".word 255", ".word", ".word ", ".word  0xff", ".word 0xff ", ".word 0x ff", ".word 0xfg", ".word 0x/0", ".word 0x:0", ".word 0x`0", ".word 0x+1", ".word 0x-1", ".word 0x0x", ".word 0xff\r", ".word 0xff, 0xff", ".word\t0xff", " .word 0xff", ".Word 0xff", "word 0xff", "0xff", ".half 0xff",
		" ", "\t", "\r", "\x00", " #", "nonsense", " syscall", "syscall ", "Syscall", "syscall 0", "addu $2,$4,$5",
		":", ": ", "a: ", "a:", "a:syscall", "a:\tsyscall", "a:  syscall", "a: b: syscall", ": : syscall", "a: #", "a: # syscall", "syscall: ", "00000000: syscall: ",
	} {
		wrongAt(t, s, 0)
		wrongAt(t, s+"\n", 0)
		wrongAt(t, "syscall\n"+s, 1)
	}
}

// P8.3: the first line that is wrong is told, lines without words counting like others.
func TestAssembleWrongLine(t *testing.T) {
	wrongAt(t, "no\nno\nno", 0)
	wrongAt(t, "syscall\nno\nsyscall\nno\n", 1)
	wrongAt(t, "\n\n\nno", 3)
	wrongAt(t, "\nsyscall\n\n# no\nno\nsyscall\nno", 4)
	wrongAt(t, "#\n#\n.word 0x1\n.word 0x", 2)
	wrongAt(t, strings.Repeat("syscall\n", 1000)+"no\n", 1000)
	wrongAt(t, strings.Repeat("\n", 65533)+"no", 65533)
}

// P8.4: Assemble of Listing is the code, of any length and at any address; of as much as a text has at most, too.
func TestListingAndBack(t *testing.T) {
	c := chance(5)
	for n := range 200 {
		code := bytesBy(&c, n)
		assembles(t, Listing(code, c.next()), code)
	}
	code := bytesBy(&c, 65536)
	if back, n, e := Assemble(Listing(code, 0xffff0000)); back != code || n != 0 || e != api.OK {
		t.Errorf("65536 bytes: %d of them, %d, %v", len(back), n, e)
	}
}

// bytesBy is bytes by chance, words of instructions among them.
func bytesBy(c *chance, n int) string {
	out := make([]byte, 0, n+4)
	for len(out) < n {
		w := c.next()
		if c.next()%2 == 0 {
			w = w>>26<<26 | 2<<21 | w&63
		}
		out = append(out, swap.PutBe(uint64(w), 4)...)
	}
	return string(out[:n])
}

// 0.1: texts of 65536 bytes of all sorts are answered.
func TestGreatTexts(t *testing.T) {
	for _, s := range []string{"j ", "9", "-", " ", "$", ": ", "#", "\x00", "addu ", "addu $1, ", "lw $1, 1(", ".word 0x", "0", "f"} {
		great := strings.Repeat(s, 65536/len(s))
		isNone(t, great, "j "+great, "lw $1, "+great)
		if s != "#" {
			wrongAt(t, "\n"+great, 1)
		}
		wrongAt(t, ".word 0x"+great, 0)
	}
	assembles(t, strings.Repeat("j 0\n", 16384), strings.Repeat("\x08\x00\x00\x00", 16384))
	assembles(t, "#"+strings.Repeat("j", 65535), "")
	assembles(t, strings.Repeat("j", 65530)+": j 0", "\x08\x00\x00\x00")
}
