package wide

const (
	wordBytes = 4
	byteBits  = 8
)

// laid is a word that is moved over an old one: what the same move leaves of all bits are the places where old's are covered.
func laid(old, word uint32, move func(uint32) uint32) uint32 {
	return old&^move(1<<width-1) | move(word)
}

// up moves a word by bytes towards the highest one.
func up(bytes int) func(uint32) uint32 {
	return func(word uint32) uint32 { return word << (byteBits * bytes) }
}

// down moves a word by bytes towards the lowest one.
func down(bytes int) func(uint32) uint32 {
	return func(word uint32) uint32 { return word >> (byteBits * bytes) }
}

// ahead is how many bytes of a word stand ahead of the one at. A mask counts from 0 on of an at below 0, too, where % would not.
func ahead(at int) int { return at & (wordBytes - 1) }

// behind is how many bytes of a word stand behind the one at.
func behind(at int) int { return wordBytes - 1 - ahead(at) }
