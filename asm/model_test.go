package asm

import (
	"fmt"
	"regexp"
	"strconv"
	"strings"
	"testing"

	"ferry/api"
	"ferry/dec"
)

// allNames are the document's instructions (chapter 7).
const allNames = `sll srl sra sllv srlv srav jr jalr movz movn syscall break mfhi mthi mflo mtlo mult multu
div divu add addu sub subu and or xor nor slt sltu tge tgeu tlt tltu teq tne bltz bgez bltzal bgezal j jal
beq bne blez bgtz addi addiu slti sltiu andi ori xori lui madd maddu mul msub msubu clz clo ext ins wsbh seb seh
rdhwr lb lh lwl lw lbu lhu lwr sb sh swl sw swr ll sc rotr rotrv`

// model is what a text may be of an instruction: each part an expression, with the field that it tells.
type model struct {
	text   *regexp.Regexp
	fields []string
}

// Parts as the document writes them: a register, a small number, a number with a sign, one without.
const (
	register = `\$(0|[1-9]|[12][0-9]|3[01])`
	small    = `(0|[1-9]|[12][0-9]|3[01])`
	signed   = `(0|-?[1-9][0-9]*)`
	unsigned = `(0|[1-9][0-9]*)`
)

// modelOf is a name's model.
func modelOf(t testing.TB, name string) model {
	t.Helper()
	imm := signed
	switch name {
	case "andi", "ori", "xori", "lui":
		imm = unsigned
	}
	var behind []string
	var fields []string
	add := func(field, part string) {
		fields, behind = append(fields, field), append(behind, part)
	}
	registers := func(list string) {
		for _, field := range strings.Fields(list) {
			add(field, register)
		}
	}
	switch form := dec.Form(name); form {
	case "dst":
		registers("rd rs rt")
	case "dta", "dtr":
		registers("rd rt")
		add("sa", small)
	case "dts", "dtv":
		registers("rd rt rs")
	case "ds", "dsd":
		registers("rd rs")
	case "dt":
		registers("rd rt")
	case "td":
		registers("rt rd")
	case "d":
		registers("rd")
	case "s":
		registers("rs")
	case "st":
		registers("rs rt")
	case "c":
		return model{regexp.MustCompile(`^` + name + `(?: ([1-9][0-9]*))?$`), []string{"imm"}}
	case "j":
		add("imm", unsigned)
	case "so":
		registers("rs")
		add("imm", imm)
	case "sto":
		registers("rs rt")
		add("imm", imm)
	case "tsi":
		registers("rt rs")
		add("imm", imm)
	case "ti":
		registers("rt")
		add("imm", imm)
	case "tm":
		return model{regexp.MustCompile(`^` + name + ` ` + register + `, ` + signed + `\(` + register + `\)$`), []string{"rt", "imm", "rs"}}
	case "tsx":
		registers("rt rs")
		add("sa", small)
		add("rd", small)
	default:
		t.Fatalf("the test's own list: %s has the form %q", name, form)
	}
	return model{regexp.MustCompile(`^` + name + ` ` + strings.Join(behind, ", ") + `$`), fields}
}

// parse is the instruction of a text by its model.
func (m model) parse(name, s string) (api.Ins, bool) {
	found := m.text.FindStringSubmatch(s)
	if found == nil {
		return api.Ins{}, false
	}
	i := api.Ins{Name: name}
	for at, field := range m.fields {
		if found[at+1] == "" {
			continue
		}
		n, err := strconv.ParseInt(found[at+1], 10, 64)
		if err != nil {
			return api.Ins{}, false
		}
		switch field {
		case "rs":
			i.Rs = int(n)
		case "rt":
			i.Rt = int(n)
		case "rd":
			i.Rd = int(n)
		case "sa":
			i.Sa = int(n)
		case "imm":
			imm, ok := immOf(name, n)
			if !ok {
				return api.Ins{}, false
			}
			i.Imm = imm
		}
	}
	if _, can := dec.Encode(i); !can {
		return api.Ins{}, false
	}
	return i, true
}

// immOf is the Imm that is written as a number.
func immOf(name string, n int64) (uint32, bool) {
	low, high := int64(-32768), int64(32767)
	switch dec.Form(name) {
	case "c":
		low, high = 0, 1<<20-1
	case "j":
		low, high = 0, 1<<26-1
	}
	switch name {
	case "andi", "ori", "xori", "lui":
		low, high = 0, 65535
	}
	if n < low || n > high {
		return 0, false
	}
	if n < 0 {
		n += 65536
	}
	return uint32(n), true
}

// chance hands out numbers by a simple rule.
type chance uint64

func (c *chance) next() uint32 {
	*c = *c*6364136223846793005 + 1442695040888963407
	return uint32(*c >> 32)
}

// some is an instruction of a name, by chance.
func some(t testing.TB, c *chance, name string) api.Ins {
	t.Helper()
	few := []uint32{0, 1, 9, 10, 29, 31}
	imms := []uint32{0, 1, 9, 10, 32767, 32768, 65535, c.next() % 65536}
	field := func(has bool) int {
		n := c.next() % 32
		if c.next()%2 == 0 {
			n = few[c.next()%uint32(len(few))]
		}
		if !has {
			n = 0
		}
		return int(n)
	}
	form := dec.Form(name)
	in := func(letters string) bool { return strings.ContainsAny(form, letters) }
	for range 1000 {
		i := api.Ins{Name: name, Rs: field(in("svm")), Rt: field(in("t")), Rd: field(in("dx")), Sa: field(in("arx"))}
		if in("cjiom") {
			i.Imm = imms[c.next()%uint32(len(imms))]
		}
		if form == "td" {
			i.Rd = 29
		}
		if _, can := dec.Encode(i); can {
			return i
		}
	}
	t.Fatalf("the test's own instructions: none of %s can be", name)
	return api.Ins{}
}

// P8.1, P8.2, P8.4: instructions of each name have a text that is just theirs.
func TestLinesAgainstModel(t *testing.T) {
	var c chance
	names := strings.Fields(allNames)
	if len(names) != 83 {
		t.Fatalf("the test's own list has %d", len(names))
	}
	of := map[string]api.Ins{}
	for _, name := range names {
		m := modelOf(t, name)
		for range 100 {
			i := some(t, &c, name)
			s := Line(i)
			if want, ok := m.parse(name, s); !ok || want != i {
				t.Fatalf("Line(%v): %q, which is %v, %v", i, s, want, ok)
			}
			if back, e := Parse(s); back != i || e != api.OK {
				t.Fatalf("Parse(%q): %v, %v; want %v", s, back, e, i)
			}
			if other, there := of[s]; there && other != i {
				t.Fatalf("%q is the text of %v and of %v", s, i, other)
			}
			of[s] = i
		}
	}
}

// spoilt is a text with one or two of its bytes left out, changed, doubled, or put in.
func spoilt(c *chance, s string) string {
	const letters = "0123456789$$,, --()++ax#\n:"
	for range c.next()%2 + 1 {
		at := int(c.next() % uint32(len(s)+1))
		to := min(at+int(c.next()%2), len(s))
		put := string(letters[c.next()%uint32(len(letters))])
		switch c.next() % 4 {
		case 0:
			put = ""
		case 1:
			put = s[at:to] + s[at:to]
		}
		s = s[:at] + put + s[to:]
	}
	return s
}

// P8.2: texts that are spoilt are read as the model reads them.
func TestSpoiltTextsAgainstModel(t *testing.T) {
	c := chance(9)
	names := strings.Fields(allNames)
	models := map[string]model{}
	for _, name := range names {
		models[name] = modelOf(t, name)
	}
	good := 0
	for _, name := range names {
		for range 300 {
			s := spoilt(&c, Line(some(t, &c, name)))
			first, _, _ := strings.Cut(s, " ")
			var want api.Ins
			is := false
			if m, there := models[first]; there {
				want, is = m.parse(first, s)
			}
			i, e := Parse(s)
			if i != want || (e == api.OK) != is || !is && e != api.ErrSyntax {
				t.Fatalf("Parse(%q): %v, %v; want %v, %v", s, i, e, want, is)
			}
			if is {
				good++
			}
		}
	}
	if good < 1000 {
		t.Errorf("only %d texts were instructions'", good)
	}
}

// P8.3: each line of a Listing is as the model writes it.
func TestListingAgainstModel(t *testing.T) {
	c := chance(11)
	for n := range 120 {
		code, at := bytesBy(&c, n), c.next()
		var want strings.Builder
		for from := 0; from < n; from += 4 {
			piece := []byte(code[from:min(from+4, n)])
			text := fmt.Sprintf(".word 0x%x", piece)
			if len(piece) == 4 {
				w := uint32(piece[0])<<24 | uint32(piece[1])<<16 | uint32(piece[2])<<8 | uint32(piece[3])
				if i, ok := dec.Decode(w); ok {
					text = Line(i)
				}
			}
			fmt.Fprintf(&want, "%08x: %s\n", at+uint32(from), text)
		}
		if s := Listing(code, at); s != want.String() {
			t.Fatalf("Listing(%q, %#x):\n%s\nwant\n%s", code, at, s, want.String())
		}
	}
}

// 0.1, P8.3: texts by chance are answered, with bytes or with a line's number.
func TestAnyTexts(t *testing.T) {
	c := chance(13)
	names := strings.Fields(allNames)
	for range 300 {
		var text string
		first := -1
		lines := int(c.next() % 6)
		for n := range lines {
			line := Line(some(t, &c, names[c.next()%83]))
			switch c.next() % 6 {
			case 0:
				line = ""
			case 1:
				line = "#" + line
			case 2:
				line = "x " + line
				if first < 0 {
					first = n
				}
			case 3:
				line = "x: " + line
			}
			text += line + "\n"
		}
		code, n, e := Assemble(text)
		if first >= 0 && (code != "" || n != first || e != api.ErrSyntax) || first < 0 && (n != 0 || e != api.OK) {
			t.Fatalf("Assemble(%q): %q, %d, %v; the first wrong line is %d", text, code, n, e, first)
		}
	}
}
