package dec

import (
	"math"
	"testing"

	"ferry/api"
)

// is holds a word and an instruction against each other, there and back.
func is(t *testing.T, w uint32, want api.Ins) {
	t.Helper()
	if i, ok := Decode(w); !ok || i != want {
		t.Errorf("Decode(%#08x): %v, %v; want %v", w, i, ok, want)
	}
	if back, ok := Encode(want); !ok || back != w {
		t.Errorf("Encode(%v): %#08x, %v; want %#08x", want, back, ok, w)
	}
}

// isNone holds that a word is no instruction's.
func isNone(t *testing.T, words ...uint32) {
	t.Helper()
	for _, w := range words {
		if i, ok := Decode(w); ok || i != (api.Ins{}) {
			t.Errorf("Decode(%#08x): %v, %v; want none", w, i, ok)
		}
	}
}

// cannotBe holds that instructions have no word.
func cannotBe(t *testing.T, list ...api.Ins) {
	t.Helper()
	for _, i := range list {
		if w, ok := Encode(i); ok || w != 0 {
			t.Errorf("Encode(%v): %#x, %v; want none", i, w, ok)
		}
	}
}

// P7.1: each instruction's form.
func TestForm(t *testing.T) {
	for _, k := range kinds(t) {
		if form := Form(k.name); form != k.form {
			t.Errorf("Form(%q): %q; want %q", k.name, form, k.form)
		}
	}
}

// P7.1, P7.3, 0.6: a name that is none has no form and no word; names are compared byte by byte.
func TestNoName(t *testing.T) {
	for _, name := range []string{"", " ", "nop", "move", "dst", "tm", "Addu", "ADDU", "addu ", " addu", "add\x00", "addu,", "lwc1", "\xff", ".word", "s", "d", "c"} {
		if form := Form(name); form != "" {
			t.Errorf("Form(%q): %q; want none", name, form)
		}
		cannotBe(t, api.Ins{Name: name}, api.Ins{Name: name, Rd: 2, Rs: 4, Rt: 5}, api.Ins{Name: name, Imm: 1})
	}
}

// P7.2, P7.4: the chapter's examples, and one of each form, by hand.
func TestExamples(t *testing.T) {
	is(t, 0x00851021, api.Ins{Name: "addu", Rd: 2, Rs: 4, Rt: 5})
	is(t, 0x0000000c, api.Ins{Name: "syscall"})
	isNone(t, 0xffffffff)

	is(t, 0x8fa80010, api.Ins{Name: "lw", Rt: 8, Rs: 29, Imm: 16})
	is(t, 0x8fa8fffc, api.Ins{Name: "lw", Rt: 8, Rs: 29, Imm: 65532})
	is(t, 0x00031940, api.Ins{Name: "sll", Rd: 3, Rt: 3, Sa: 5})
	is(t, 0x00231942, api.Ins{Name: "rotr", Rd: 3, Rt: 3, Sa: 5})
	is(t, 0x00a41804, api.Ins{Name: "sllv", Rd: 3, Rt: 4, Rs: 5})
	is(t, 0x00a41846, api.Ins{Name: "rotrv", Rd: 3, Rt: 4, Rs: 5})
	is(t, 0x0320f809, api.Ins{Name: "jalr", Rd: 31, Rs: 25})
	is(t, 0x03e00008, api.Ins{Name: "jr", Rs: 31})
	is(t, 0x00001010, api.Ins{Name: "mfhi", Rd: 2})
	is(t, 0x02110018, api.Ins{Name: "mult", Rs: 16, Rt: 17})
	is(t, 0x0000004d, api.Ins{Name: "break", Imm: 1})
	is(t, 0x04910003, api.Ins{Name: "bgezal", Rs: 4, Imm: 3})
	is(t, 0x1880fffe, api.Ins{Name: "blez", Rs: 4, Imm: 65534})
	is(t, 0x10850003, api.Ins{Name: "beq", Rs: 4, Rt: 5, Imm: 3})
	is(t, 0x0c100001, api.Ins{Name: "jal", Imm: 0x100001})
	is(t, 0x24040007, api.Ins{Name: "addiu", Rt: 4, Imm: 7})
	is(t, 0x3c1c0042, api.Ins{Name: "lui", Rt: 28, Imm: 66})
	is(t, 0x70821020, api.Ins{Name: "clz", Rd: 2, Rs: 4})
	is(t, 0x7c021c20, api.Ins{Name: "seb", Rd: 3, Rt: 2})
	is(t, 0x7c03e83b, api.Ins{Name: "rdhwr", Rt: 3, Rd: 29})
	is(t, 0x7c823900, api.Ins{Name: "ext", Rt: 2, Rs: 4, Rd: 7, Sa: 4})
	is(t, 0x7c825904, api.Ins{Name: "ins", Rt: 2, Rs: 4, Rd: 11, Sa: 4})
}

// P7.2: the word 0 is sll's.
func TestWordZero(t *testing.T) {
	is(t, 0, api.Ins{Name: "sll"})
}

// P7.2: operations, and functions of operations, that are none's.
func TestNoSuchNumbers(t *testing.T) {
	operations, functions := map[int]bool{}, map[[2]int]bool{}
	for _, k := range kinds(t) {
		operations[k.op] = true
		functions[[2]int{k.op, k.function}] = true
	}
	for op := range 64 {
		if !operations[op] {
			isNone(t, uint32(op)<<26, uint32(op)<<26|1, uint32(op)<<26|0x03ffffff)
		}
		for function := range 64 {
			if (op == 0 || op == 28 || op == 31) && !functions[[2]int{op, function}] {
				isNone(t, uint32(op<<26|function), uint32(op<<26|function)|0x03ffffc0, uint32(op<<26|function|1<<21), uint32(op<<26|function|2<<6))
			}
		}
	}
}

// P7.2: a field that the form has not must be 0 in the word.
func TestFieldsThatMustBeZero(t *testing.T) {
	isNone(t,
		0x00851021|1<<6,  // addu with sa
		0x00031940|1<<21, // sll with rs
		0x00031940|2<<21,
		0x00031943|1<<21,                  // sra with rs
		0x00a41804|1<<6,                   // sllv with sa
		0x00a41807|1<<6,                   // srav with sa
		0x03e00008|1<<6,                   // jr with sa
		0x03e00008|1<<11,                  // jr with rd
		0x03e00008|1<<16,                  // jr with rt
		0x0320f809|1<<16,                  // jalr with rt
		0x0320f809|1<<6,                   // jalr with sa
		0x00001010|1<<21,                  // mfhi with rs
		0x00001010|1<<16,                  // mfhi with rt
		0x00001010|1<<6,                   // mfhi with sa
		0x02110018|1<<11,                  // mult with rd
		0x02110018|1<<6,                   // mult with sa
		0x1880fffe|1<<16,                  // blez with rt
		0x1c80fffe|1<<20,                  // bgtz with rt
		0x3c1c0042|1<<21,                  // lui with rs
		0x70821020|1<<6,                   // clz with sa
		0x7c021c20|1<<21,                  // seb with rs
		0x7c03e83b|1<<21, 0x7c03e83b|1<<6, // rdhwr with rs, with sa
		28<<26|1<<11, 28<<26|1<<6, 28<<26|66, // madd with rd, with sa; mul with sa
	)
}

// P7.2, P7.3: rotr is srl with rs of 1, rotrv is srlv with sa of 1, and there is none with 2.
func TestRotates(t *testing.T) {
	is(t, 0x00031942, api.Ins{Name: "srl", Rd: 3, Rt: 3, Sa: 5})
	is(t, 0x00231942, api.Ins{Name: "rotr", Rd: 3, Rt: 3, Sa: 5})
	is(t, 0x00200002, api.Ins{Name: "rotr"})
	isNone(t, 0x00431942, 0x00631942, 0x03e31942)
	is(t, 0x00a41806, api.Ins{Name: "srlv", Rd: 3, Rt: 4, Rs: 5})
	is(t, 0x00a41846, api.Ins{Name: "rotrv", Rd: 3, Rt: 4, Rs: 5})
	is(t, 0x00000046, api.Ins{Name: "rotrv"})
	isNone(t, 0x00a41886, 0x00a418c6, 0x00a41fc6)
	cannotBe(t,
		api.Ins{Name: "srl", Rd: 3, Rt: 3, Sa: 5, Rs: 1}, api.Ins{Name: "rotr", Rd: 3, Rt: 3, Sa: 5, Rs: 1}, api.Ins{Name: "rotr", Rs: 2},
		api.Ins{Name: "srlv", Rd: 3, Rt: 4, Rs: 5, Sa: 1}, api.Ins{Name: "rotrv", Rd: 3, Rt: 4, Rs: 5, Sa: 1}, api.Ins{Name: "rotrv", Sa: 2})
}

// P7.2, P7.3: the forms dt by their second number.
func TestSecondNumbers(t *testing.T) {
	names := map[uint32]string{2: "wsbh", 16: "seb", 24: "seh"}
	for sa := range uint32(32) {
		w := 31<<26 | 4<<16 | 3<<11 | sa<<6 | 32
		if names[sa] == "" {
			isNone(t, w)
			continue
		}
		is(t, w, api.Ins{Name: names[sa], Rd: 3, Rt: 4})
		cannotBe(t, api.Ins{Name: names[sa], Rd: 3, Rt: 4, Sa: int(sa)})
	}
}

// P7.2, P7.3: dsd has rd in rt, too, and Rt is 0.
func TestRdTwice(t *testing.T) {
	for _, name := range []string{"clz", "clo"} {
		function := map[string]uint32{"clz": 32, "clo": 33}[name]
		for rd := range uint32(32) {
			for rt := range uint32(32) {
				w := 28<<26 | 4<<21 | rt<<16 | rd<<11 | function
				if rt == rd {
					is(t, w, api.Ins{Name: name, Rs: 4, Rd: int(rd)})
				} else {
					isNone(t, w)
				}
			}
		}
		cannotBe(t, api.Ins{Name: name, Rs: 4, Rd: 3, Rt: 3}, api.Ins{Name: name, Rs: 4, Rd: 3, Rt: 1}, api.Ins{Name: name, Rs: 4, Rt: 3})
	}
}

// P7.2, P7.3: td asks register 29 alone.
func TestHardwareRegister(t *testing.T) {
	for rd := range uint32(32) {
		w, i := 31<<26|3<<16|rd<<11|59, api.Ins{Name: "rdhwr", Rt: 3, Rd: int(rd)}
		if rd == 29 {
			is(t, w, i)
			continue
		}
		isNone(t, w)
		cannotBe(t, i)
	}
	cannotBe(t, api.Ins{Name: "rdhwr", Rt: 3, Rd: 29 + 32})
}

// P7.2, P7.3: Rd and Sa of ext are together at most 31, Sa of ins is at most Rd.
func TestBitsOfExtAndIns(t *testing.T) {
	for rd := range 32 {
		for sa := range 32 {
			w := uint32(31<<26 | 4<<21 | 2<<16 | rd<<11 | sa<<6)
			ext, ins := api.Ins{Name: "ext", Rt: 2, Rs: 4, Rd: rd, Sa: sa}, api.Ins{Name: "ins", Rt: 2, Rs: 4, Rd: rd, Sa: sa}
			if rd+sa <= 31 {
				is(t, w, ext)
			} else {
				isNone(t, w)
				cannotBe(t, ext)
			}
			if sa <= rd {
				is(t, w|4, ins)
			} else {
				isNone(t, w|4)
				cannotBe(t, ins)
			}
		}
	}
}

// P7.2, P7.3: operation 1 with each second number.
func TestOperationOne(t *testing.T) {
	names := map[uint32]string{0: "bltz", 1: "bgez", 16: "bltzal", 17: "bgezal"}
	for second := range uint32(32) {
		w := 1<<26 | 4<<21 | second<<16 | 0x8001
		if names[second] == "" {
			isNone(t, w)
			continue
		}
		is(t, w, api.Ins{Name: names[second], Rs: 4, Imm: 0x8001})
		cannotBe(t, api.Ins{Name: names[second], Rs: 4, Imm: 0x8001, Rt: 1}, api.Ins{Name: names[second], Rs: 4, Rt: 16})
	}
}

// with is an instruction with one of its fields changed.
func with(i api.Ins, field byte, n int) api.Ins {
	switch field {
	case 's':
		i.Rs = n
	case 't':
		i.Rt = n
	case 'd':
		i.Rd = n
	case 'a':
		i.Sa = n
	}
	return i
}

// has are the fields of each form, but Imm.
var has = map[string]string{
	"dst": "dst", "dta": "dta", "dtr": "dta", "dts": "dts", "dtv": "dts", "ds": "ds", "dsd": "ds", "dt": "dt", "td": "td",
	"d": "d", "s": "s", "st": "st", "c": "", "so": "s", "sto": "st", "j": "", "tsi": "ts", "ti": "t", "tm": "ts", "tsx": "tsda",
}

// plain is an instruction of a kind with fields of 0 where it may have them.
func (k kind) plain() api.Ins {
	if k.form == "td" {
		return api.Ins{Name: k.name, Rd: 29}
	}
	return api.Ins{Name: k.name}
}

// P7.3: fields from 0 to 31 of those that the form has, and of no other but 0.
func TestFieldsOfEncode(t *testing.T) {
	for _, k := range kinds(t) {
		mine := map[byte]bool{}
		for at := range len(has[k.form]) {
			mine[has[k.form][at]] = true
		}
		for at := range len("stda") {
			field := "stda"[at]
			cannotBe(t, with(k.plain(), field, -1), with(k.plain(), field, 32), with(k.plain(), field, math.MaxInt), with(k.plain(), field, math.MinInt), with(k.plain(), field, 1<<32+1))
			if k.form == "td" && field == 'd' {
				continue
			}
			if !mine[field] {
				cannotBe(t, with(k.plain(), field, 1), with(k.plain(), field, 31))
				continue
			}
			greatest := with(k.plain(), field, 31)
			if k.name == "ins" {
				greatest.Rd = 31
			}
			w, ok := Encode(greatest)
			if i, back := Decode(w); !ok || !back || i != greatest {
				t.Errorf("%v: %#x, %v; %v, %v", greatest, w, ok, i, back)
			}
		}
	}
}

// P7.3: Imm up to the greatest number of its bits, and 0 of a form that has none.
func TestImmOfEncode(t *testing.T) {
	greatest := map[string]uint32{"c": 1<<20 - 1, "j": 1<<26 - 1, "so": 65535, "sto": 65535, "tsi": 65535, "ti": 65535, "tm": 65535}
	for _, k := range kinds(t) {
		i := k.plain()
		i.Imm = greatest[k.form]
		w, ok := Encode(i)
		if back, is := Decode(w); !ok || !is || back != i {
			t.Errorf("%v: %#x, %v; %v, %v", i, w, ok, back, is)
		}
		for _, more := range []uint32{greatest[k.form] + 1, greatest[k.form]*2 + 1, 1 << 26, 1 << 31, math.MaxUint32} {
			i.Imm = more
			cannotBe(t, i)
		}
	}
}

// P7.2: code and target take all of their bits, beside none of the fields that lie in the same bits.
func TestCodeAndTarget(t *testing.T) {
	is(t, 0x03ffffcc, api.Ins{Name: "syscall", Imm: 1<<20 - 1})
	is(t, 0x03ffffcd, api.Ins{Name: "break", Imm: 1<<20 - 1})
	is(t, 0x0bffffff, api.Ins{Name: "j", Imm: 1<<26 - 1})
	is(t, 0x0fffffff, api.Ins{Name: "jal", Imm: 1<<26 - 1})
	is(t, 0x08000000, api.Ins{Name: "j"})
	cannotBe(t, api.Ins{Name: "break", Sa: 1}, api.Ins{Name: "break", Rs: 1}, api.Ins{Name: "j", Rs: 1}, api.Ins{Name: "jal", Rd: 1})
}
