package tests

import (
	"bytes"
	"math"
	"testing"
	"unicode/utf8"

	"loop.example/s0055/impl"
)

// far holds the offsets, lines and columns that no text has.
var far = []int{math.MinInt, math.MinInt + 1, -1 << 32, -2, -1, 1 << 32, math.MaxInt - 1, math.MaxInt}

// mixed holds texts with characters of one to four bytes, invalid bytes, empty
// lines, and ends with and without a newline.
var mixed = []string{
	"",
	"a",
	"\n",
	"\n\n\n",
	"a\n",
	"a\nb",
	"\na\n\nbc\n",
	"é€😀x",
	"aé€😀\né\n€\n😀",
	"😀😀\n\n€€\n",
	"\xff\xfe\n\x80a\xc3",
	"\xc3\n\xe2\x82\n\xf0\x9f\x98\nz",
	"\xc3\xc3\xa9\xa9\n\xed\xa0\x80\n\xf4\x90\x80\x80",
	"\xe0\x9f\xbf\xe0\xa0\x80\xf0\x8f\xbf\xbf\xf0\x90\x80\x80\n\n",
	"\r\n\t\r\n\x00\x7f",
}

// shortTexts calls f with every text of at most size bytes over an alphabet
// that makes whole characters of every length, cut ones and wrong ones.
func shortTexts(size int, f func(text []byte)) {
	alphabet := []byte{'a', '\n', 0x80, 0x9f, 0xa9, 0xc3, 0xe2, 0xed, 0xf0}
	var grow func(text []byte)
	grow = func(text []byte) {
		f(bytes.Clone(text))
		if len(text) == size {
			return
		}
		for _, b := range alphabet {
			grow(append(text, b))
		}
	}
	grow(make([]byte, 0, size))
}

// place is what the tests expect of one offset.
type place struct {
	line, col int
	begins    bool // a character begins here, or the text ends
}

// placesOf tells the place of every offset from 0 to the length of the text,
// cutting it from its beginning with the library's decoder.
func placesOf(text []byte) []place {
	var all []place
	line, col := 1, 1
	for at := 0; at < len(text); {
		_, size := utf8.DecodeRune(text[at:])
		all = append(all, place{line, col, true})
		for i := 1; i < size; i++ {
			all = append(all, place{line, col + 1, false})
		}
		col++
		if text[at] == '\n' {
			line, col = line+1, 1
		}
		at += size
	}
	return append(all, place{line, col, true})
}

func TestCodes(t *testing.T) {
	codes := []int{impl.CodeOK, impl.CodeFail, impl.CodeLabel, impl.CodeExhausted, impl.CodeBad,
		impl.CodeSyntax, impl.CodeName, impl.CodeLimit, impl.CodeLeft, impl.CodeLoop}
	for want, got := range codes {
		if got != want {
			t.Errorf("code number %d is %d", want, got)
		}
	}
}

func TestCharLenOutside(t *testing.T) {
	for _, text := range [][]byte{nil, {}, []byte("a"), []byte("é€"), {0xf0, 0x9f}} {
		for _, at := range append([]int{-1, len(text), len(text) + 1}, far...) {
			if got := impl.CharLen(text, at); got != 0 {
				t.Errorf("%q at %d: %d, want 0", text, at, got)
			}
		}
	}
}

// leads are the lead bytes from..to with the length of their characters and
// the bounds of the second byte, as the document tells them.
var leads = []struct{ from, to, size, lo, hi int }{
	{0, 127, 1, 0, 0},
	{128, 193, 1, 0, 0},
	{194, 223, 2, 128, 191},
	{224, 224, 3, 160, 191},
	{225, 236, 3, 128, 191},
	{237, 237, 3, 128, 159},
	{238, 239, 3, 128, 191},
	{240, 240, 4, 144, 191},
	{241, 243, 4, 128, 191},
	{244, 244, 4, 128, 143},
	{245, 255, 1, 0, 0},
}

func TestCharLenSecondByte(t *testing.T) {
	for _, l := range leads {
		for lead := l.from; lead <= l.to; lead++ {
			for second := 0; second < 256; second++ {
				want := 1
				if l.lo <= second && second <= l.hi {
					want = l.size
				}
				for _, rest := range []byte{128, 191} {
					text := []byte{byte(lead), byte(second), rest, rest, rest}
					if got := impl.CharLen(text, 0); got != want {
						t.Errorf("% x: %d, want %d", text, got, want)
					}
				}
			}
		}
	}
}

func TestCharLenLaterBytes(t *testing.T) {
	for _, l := range leads {
		for lead := l.from; lead <= l.to; lead++ {
			for i := 2; i < l.size; i++ {
				for b := 0; b < 256; b++ {
					text := []byte{byte(lead), byte(l.lo), 128, 128}
					text[i] = byte(b)
					want := 1
					if 128 <= b && b <= 191 {
						want = l.size
					}
					if got := impl.CharLen(text, 0); got != want {
						t.Errorf("% x: %d, want %d", text, got, want)
					}
				}
			}
		}
	}
}

func TestCharLenCutOff(t *testing.T) {
	for _, l := range leads {
		for lead := l.from; lead <= l.to; lead++ {
			whole := []byte{'a', byte(lead), byte(l.hi), 191, 191}[:1+l.size]
			if got := impl.CharLen(whole, 1); got != l.size {
				t.Errorf("% x: %d, want %d", whole, got, l.size)
			}
			for n := 2; n < len(whole); n++ {
				// The bytes behind the cut are still there in memory, but not in the text.
				if got := impl.CharLen(whole[:n], 1); got != 1 {
					t.Errorf("% x cut off: %d, want 1", whole[:n], got)
				}
			}
		}
	}
}

func TestCharLenAlone(t *testing.T) {
	for b := 0; b < 256; b++ {
		for _, text := range [][]byte{{byte(b)}, {byte(b), 'a', 'a', 'a'}, {byte(b), '\n', 0x80, 0x80}} {
			if got := impl.CharLen(text, 0); got != 1 {
				t.Errorf("% x: %d, want 1", text, got)
			}
		}
	}
}

// Promise 1: from 1 to 4, not past the end, and an invalid byte is one character.
func TestPromise1(t *testing.T) {
	check := func(text []byte) {
		for at := range text {
			got := impl.CharLen(text, at)
			if got < 1 || got > 4 || at+got > len(text) {
				t.Fatalf("% x at %d: %d leads past the end or is no length", text, at, got)
			}
			if _, want := utf8.DecodeRune(text[at:]); got != want {
				t.Fatalf("% x at %d: %d, want %d", text, at, got, want)
			}
		}
	}
	shortTexts(5, check)
	for _, s := range mixed {
		check([]byte(s))
	}
}

// Promise 2: there and back again from every offset at which a character
// begins; the places themselves are held against placesOf.
func TestPromise2(t *testing.T) {
	check := func(text []byte) {
		for off, p := range placesOf(text) {
			line, col := impl.LineCol(text, off)
			if line != p.line || col != p.col {
				t.Fatalf("%q at %d: %d:%d, want %d:%d", text, off, line, col, p.line, p.col)
			}
			if got := impl.OffsetOf(text, line, col); p.begins && got != off {
				t.Fatalf("%q %d:%d: %d, want %d", text, line, col, got, off)
			}
		}
	}
	shortTexts(5, check)
	for _, s := range mixed {
		check([]byte(s))
	}
}

func TestLineCol(t *testing.T) {
	cases := []struct {
		text           string
		off, line, col int
	}{
		{"", -1, 0, 0}, {"", 0, 1, 1}, {"", 1, 0, 0},
		{"ab", -1, 0, 0}, {"ab", 0, 1, 1}, {"ab", 1, 1, 2}, {"ab", 2, 1, 3}, {"ab", 3, 0, 0},
		{"ab\n", 2, 1, 3}, {"ab\n", 3, 2, 1}, {"ab\n", 4, 0, 0},
		{"\n", 0, 1, 1}, {"\n", 1, 2, 1}, {"\n\nx", 1, 2, 1}, {"\n\nx", 2, 3, 1}, {"\n\nx", 3, 3, 2},
		{"é\n€", 0, 1, 1}, {"é\n€", 1, 1, 2}, {"é\n€", 2, 1, 2}, {"é\n€", 3, 2, 1}, {"é\n€", 4, 2, 2}, {"é\n€", 5, 2, 2}, {"é\n€", 6, 2, 2},
		{"😀b", 1, 1, 2}, {"😀b", 2, 1, 2}, {"😀b", 3, 1, 2}, {"😀b", 4, 1, 2}, {"😀b", 5, 1, 3},
		{"\xe2\x82\n", 1, 1, 2}, {"\xe2\x82\n", 2, 1, 3}, {"\xe2\x82\n", 3, 2, 1},
	}
	for _, c := range cases {
		if line, col := impl.LineCol([]byte(c.text), c.off); line != c.line || col != c.col {
			t.Errorf("%q at %d: %d:%d, want %d:%d", c.text, c.off, line, col, c.line, c.col)
		}
	}
}

func TestOffsetOf(t *testing.T) {
	cases := []struct {
		text            string
		line, col, want int
	}{
		{"", 1, 1, 0}, {"", 1, 2, -1}, {"", 2, 1, -1}, {"", 0, 0, -1}, {"", 0, 1, -1}, {"", 1, 0, -1},
		{"ab", 1, 2, 1}, {"ab", 1, 3, 2}, {"ab", 1, 4, -1}, {"ab", 2, 1, -1},
		{"ab\n", 1, 3, 2}, {"ab\n", 1, 4, -1}, {"ab\n", 2, 1, 3}, {"ab\n", 2, 2, -1}, {"ab\n", 3, 1, -1},
		{"\n\nx", 1, 1, 0}, {"\n\nx", 1, 2, -1}, {"\n\nx", 2, 1, 1}, {"\n\nx", 2, 2, -1}, {"\n\nx", 3, 1, 2}, {"\n\nx", 3, 2, 3}, {"\n\nx", 3, 3, -1},
		{"é€\n😀b", 1, 2, 2}, {"é€\n😀b", 1, 3, 5}, {"é€\n😀b", 1, 4, -1}, {"é€\n😀b", 2, 1, 6}, {"é€\n😀b", 2, 2, 10}, {"é€\n😀b", 2, 3, 11}, {"é€\n😀b", 2, 4, -1},
	}
	for _, c := range cases {
		if got := impl.OffsetOf([]byte(c.text), c.line, c.col); got != c.want {
			t.Errorf("%q %d:%d: %d, want %d", c.text, c.line, c.col, got, c.want)
		}
	}
}

// Every line and column around those that are there: only the places of
// placesOf at which a character begins have an offset.
func TestOffsetOfEveryPlace(t *testing.T) {
	type lineCol struct{ line, col int }
	check := func(text []byte) {
		want := map[lineCol]int{}
		for off, p := range placesOf(text) {
			if p.begins {
				want[lineCol{p.line, p.col}] = off
			}
		}
		for line := -1; line <= len(text)+3; line++ {
			for col := -1; col <= len(text)+3; col++ {
				off, found := want[lineCol{line, col}]
				if !found {
					off = -1
				}
				if got := impl.OffsetOf(text, line, col); got != off {
					t.Fatalf("%q %d:%d: %d, want %d", text, line, col, got, off)
				}
			}
		}
	}
	shortTexts(4, check)
	for _, s := range mixed {
		check([]byte(s))
	}
}

func TestRender(t *testing.T) {
	cases := []struct {
		text string
		off  int
		msg  string
		want string
	}{
		{"", 0, "", "1:1: \n\n^\n"},
		{"", 0, "m", "1:1: m\n\n^\n"},
		{"", -1, "m", ""}, {"", 1, "m", ""}, {"ab", -1, "m", ""}, {"ab", 3, "m", ""}, {"ab\n", 4, "m", ""},
		{"ab", 0, "m", "1:1: m\nab\n^\n"},
		{"ab", 2, "m", "1:3: m\nab\n  ^\n"},
		{"ab\ncd\n", 2, "at the newline", "1:3: at the newline\nab\n  ^\n"},
		{"ab\ncd\n", 3, "m", "2:1: m\ncd\n^\n"},
		{"ab\ncd\n", 5, "m", "2:3: m\ncd\n  ^\n"},
		{"ab\ncd\n", 6, "m", "3:1: m\n\n^\n"},
		{"a\n\nb", 2, "m", "2:1: m\n\n^\n"},
		{"é€😀x", 9, "m", "1:4: m\né€😀x\n   ^\n"},
		{"é€😀x", 3, "m", "1:3: m\né€😀x\n  ^\n"},
		{"\t\r\n", 1, "m", "1:2: m\n\t\r\n ^\n"},
		{"\xff\xc3z", 2, "two\nlines \xfe", "1:3: two\nlines \xfe\n\xff\xc3z\n  ^\n"},
	}
	for _, c := range cases {
		if got := string(impl.Render([]byte(c.text), c.off, []byte(c.msg))); got != c.want {
			t.Errorf("%q at %d: %q, want %q", c.text, c.off, got, c.want)
		}
	}
}

func TestRenderManyDigits(t *testing.T) {
	text := bytes.Repeat([]byte("\n"), 1233)
	text = append(text, bytes.Repeat([]byte("é"), 120)...)
	want := "1234:101: m\n" + string(text[1233:]) + "\n" + string(bytes.Repeat([]byte(" "), 100)) + "^\n"
	if got := string(impl.Render(text, 1233+200, []byte("m"))); got != want {
		t.Errorf("%q, want %q", got, want)
	}
}

func TestFarAndNil(t *testing.T) {
	for _, text := range [][]byte{nil, {}, []byte("é\nb\n"), []byte("\xf0\x9f")} {
		for _, n := range far {
			if line, col := impl.LineCol(text, n); line != 0 || col != 0 {
				t.Errorf("LineCol of %q at %d: %d:%d", text, n, line, col)
			}
			if got := impl.Render(text, n, []byte("m")); len(got) != 0 {
				t.Errorf("Render of %q at %d: %q", text, n, got)
			}
			for _, m := range append([]int{0, 1, 2}, far...) {
				if got := impl.OffsetOf(text, n, m); got != -1 {
					t.Errorf("OffsetOf of %q %d:%d: %d", text, n, m, got)
				}
				if got := impl.OffsetOf(text, m, n); got != -1 {
					t.Errorf("OffsetOf of %q %d:%d: %d", text, m, n, got)
				}
			}
		}
	}
	if line, col := impl.LineCol(nil, 0); line != 1 || col != 1 {
		t.Errorf("LineCol of nil: %d:%d", line, col)
	}
	if got := impl.OffsetOf(nil, 1, 1); got != 0 {
		t.Errorf("OffsetOf of nil: %d", got)
	}
	if got := string(impl.Render(nil, 0, nil)); got != "1:1: \n\n^\n" {
		t.Errorf("Render of nil: %q", got)
	}
}

// roomy answers s with room behind it, as a list into which a careless append
// would write, and the whole memory to look at afterwards.
func roomy(s string) ([]byte, []byte) {
	memory := append([]byte(s), bytes.Repeat([]byte{'~'}, 64)...)
	return memory[:len(s)], memory
}

func TestArgumentsStayAsTheyAre(t *testing.T) {
	for _, s := range mixed {
		text, textMemory := roomy(s)
		message, messageMemory := roomy("message")
		textBefore, messageBefore := bytes.Clone(textMemory), bytes.Clone(messageMemory)
		for off := -1; off <= len(text)+1; off++ {
			impl.CharLen(text, off)
			line, col := impl.LineCol(text, off)
			impl.OffsetOf(text, line, col)
			answer := impl.Render(text, off, message)
			answer = answer[:cap(answer)]
			for i := range answer {
				answer[i] = '!'
			}
			if !bytes.Equal(textMemory, textBefore) || !bytes.Equal(messageMemory, messageBefore) {
				t.Fatalf("%q at %d: an argument is changed, or the answer shares its memory", s, off)
			}
		}
	}
}

func TestAnswersStayAsTheyAre(t *testing.T) {
	text, message := []byte("ab\ncd"), []byte("m")
	first := impl.Render(text, 4, message)
	second := impl.Render(text, 4, message)
	text[3], message[0] = 'x', 'y'
	impl.Render(text, 4, message)[0] = 'z'
	for _, got := range [][]byte{first, second} {
		if string(got) != "2:2: m\ncd\n ^\n" {
			t.Errorf("an answer changed after it was given: %q", got)
		}
	}
	first[0] = 'w'
	if second[0] != '2' {
		t.Errorf("two answers share memory")
	}
}
