package glyph

const (
	blank = ' '
	tab   = '\t'
)

// Decode reads bytes as signs, tabs as blanks; false: they are not UTF-8, or
// hold a sign that is not one of the language.
func Decode(b string) ([]rune, bool) {
	var l []rune
	// Bytes that are not UTF-8 come out of the range as the sign FFFD, whose
	// kind is None: they need no look of their own.
	for _, c := range b {
		if c == tab {
			c = blank
		}
		if Kind(c) == None {
			return nil, false
		}
		l = append(l, c)
	}
	return l, true
}

// Encode writes signs as bytes of UTF-8.
func Encode(l ...rune) string { return string(l) }

// Trim returns signs without the blanks at both ends, in new memory.
func Trim(l []rune) []rune {
	from, to := 0, len(l)
	for from < to && l[from] == blank {
		from++
	}
	for from < to && l[to-1] == blank {
		to--
	}
	return append([]rune(nil), l[from:to]...)
}

// Words returns the texts between blanks; none of them is empty.
func Words(l []rune) []string {
	var words []string
	from := 0
	for at, c := range l {
		if c != blank {
			continue
		}
		words = appendWord(words, l[from:at])
		from = at + 1
	}
	return appendWord(words, l[from:])
}

// appendWord adds a word to others, unless it is empty.
func appendWord(words []string, word []rune) []string {
	if len(word) == 0 {
		return words
	}
	return append(words, Encode(word...))
}
