package impl

import (
	"bytes"
	"iter"
	"strconv"
)

const (
	CodeOK        = 0
	CodeFail      = 1
	CodeLabel     = 2
	CodeExhausted = 3
	CodeBad       = 4
	CodeSyntax    = 5
	CodeName      = 6
	CodeLimit     = 7
	CodeLeft      = 8
	CodeLoop      = 9
)

// CharLen answers how many bytes the character has that begins at offset at,
// or 0 if the text has no such offset. A byte that begins no whole character
// is one character by itself, so that every text can be cut to its end.
func CharLen(text []byte, at int) int {
	if at < 0 || at >= len(text) {
		return 0
	}
	lead := text[at]
	size := leadSize(lead)
	if size > len(text)-at {
		return 1
	}
	lo, hi := secondBounds(lead)
	for _, b := range text[at+1 : at+size] {
		if b < lo || b > hi {
			return 1
		}
		lo, hi = 128, 191
	}
	return size
}

// leadSize answers how many bytes a character has that begins with lead.
func leadSize(lead byte) int {
	switch {
	case 194 <= lead && lead <= 223:
		return 2
	case 224 <= lead && lead <= 239:
		return 3
	case 240 <= lead && lead <= 244:
		return 4
	}
	return 1
}

// secondBounds answers the least and the greatest second byte after lead.
// They are narrower where the number that is encoded would be too long
// (224, 240), a surrogate (237) or too great (244).
func secondBounds(lead byte) (byte, byte) {
	switch lead {
	case 224:
		return 160, 191
	case 237:
		return 128, 159
	case 240:
		return 144, 191
	case 244:
		return 128, 143
	}
	return 128, 191
}

// characters gives the offset at which each character of the text begins.
func characters(text []byte) iter.Seq[int] {
	return func(yield func(int) bool) {
		for at := 0; at < len(text); at += CharLen(text, at) {
			if !yield(at) {
				return
			}
		}
	}
}

// textLine is one line of a text. The newline is left out of the body: what
// stands behind the body, a newline or the end of the text, is one more place
// of the line in both cases, and no other code has to tell them apart.
type textLine struct {
	number int
	from   int
	body   []byte
}

// end answers the offset right behind the body.
func (l textLine) end() int {
	return l.from + len(l.body)
}

// places gives the column and the offset of each character of the line, and
// last those of the place behind its body.
func (l textLine) places() iter.Seq2[int, int] {
	return func(yield func(int, int) bool) {
		col := 1
		for at := range characters(l.body) {
			if !yield(col, l.from+at) {
				return
			}
			col++
		}
		yield(col, l.end())
	}
}

// column answers the column of an offset that lies in the line. An offset
// inside a character has that character before it, so the first place that
// is not before the offset tells the column.
func (l textLine) column(off int) int {
	for col, at := range l.places() {
		if at >= off {
			return col
		}
	}
	return 0
}

// offset answers the offset of a column, or -1 if the line does not have it.
func (l textLine) offset(col int) int {
	for c, at := range l.places() {
		if c == col {
			return at
		}
	}
	return -1
}

// textLines is a text seen as its lines; even the empty text has one.
type textLines []byte

// all gives the lines in order.
func (t textLines) all() iter.Seq[textLine] {
	return func(yield func(textLine) bool) {
		number, from := 1, 0
		for {
			size := bytes.IndexByte(t[from:], '\n')
			if size < 0 {
				yield(textLine{number, from, t[from:]})
				return
			}
			if !yield(textLine{number, from, t[from : from+size]}) {
				return
			}
			number, from = number+1, from+size+1
		}
	}
}

// holding finds the line in which an offset lies. The lines from first byte
// to end cover every offset of the text once, and no other.
func (t textLines) holding(off int) (textLine, bool) {
	for l := range t.all() {
		if l.from <= off && off <= l.end() {
			return l, true
		}
	}
	return textLine{}, false
}

// numbered finds the line with a number.
func (t textLines) numbered(number int) (textLine, bool) {
	for l := range t.all() {
		if l.number == number {
			return l, true
		}
	}
	return textLine{}, false
}

// LineCol answers the line and the column of an offset, or 0, 0 if the offset
// is neither in the text nor its length.
func LineCol(text []byte, off int) (int, int) {
	l, found := textLines(text).holding(off)
	if !found {
		return 0, 0
	}
	return l.number, l.column(off)
}

// OffsetOf answers the offset at which a character begins, given its line and
// column, or -1 if there is no such character.
func OffsetOf(text []byte, line int, col int) int {
	l, found := textLines(text).numbered(line)
	if !found {
		return -1
	}
	return l.offset(col)
}

// Render answers a message with the line and column of an offset, the line
// itself and a caret below the offset; nothing for an offset outside the text.
func Render(text []byte, off int, message []byte) []byte {
	l, found := textLines(text).holding(off)
	if !found {
		return nil
	}
	col := l.column(off)
	out := strconv.AppendInt(nil, int64(l.number), 10)
	out = append(out, ':')
	out = strconv.AppendInt(out, int64(col), 10)
	out = append(out, ": "...)
	out = append(out, message...)
	out = append(out, '\n')
	out = append(out, l.body...)
	out = append(out, '\n')
	out = append(out, bytes.Repeat([]byte{' '}, col-1)...)
	return append(out, "^\n"...)
}
