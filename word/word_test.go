package word_test

import (
	"fmt"
	"math/rand"
	"regexp"
	"slices"
	"strings"
	"testing"

	"horarium/api"
	"horarium/word"
)

const long = 1 << 20

// themselves are the bytes that stand for themselves, as the chapter names them.
const themselves = "abcdefghijklmnopqrstuvwxyz" + "ABCDEFGHIJKLMNOPQRSTUVWXYZ" + "0123456789" + "._:/+-,="

// written: how a byte is written in a word.
func written(b int) string {
	if strings.IndexByte(themselves, byte(b)) >= 0 {
		return string([]byte{byte(b)})
	}
	return fmt.Sprintf("%%%02x", b)
}

// truth: the word of s, byte by byte.
func truth(s string) string {
	if s == "" {
		return "%"
	}
	out := ""
	for i := range len(s) {
		out += written(int(s[i]))
	}
	return out
}

// every is a text of every one of the 256 bytes, rising.
func every() string {
	out := make([]byte, 256)
	for i := range out {
		out[i] = byte(i)
	}
	return string(out)
}

// texts are texts of all kinds, the same in each run.
func texts() []string {
	out := []string{
		"", "a", "Z", "0", "%", "%%", "%%%", " ", "  ", "a b", " a", "a ", "\n", "a\n", "\na", "\n\n", "\r\n", "\x00",
		"%20", "%25", "%61", "%0a", "%zz", "abc", "AZaz09._:/+-,=", "room/12:30-14:00", "a%b", "~", "!", "\"", "\\", "(x)",
		"\x7f", "\x80", "\xff", "\xff\xfe", "\xc3\xa9", "h\u00f6rsaal", "\u20ac", "\U0001f600", "\u2028", "\ufffd", "\t",
		every(), every() + every(), themselves,
	}
	for b := range 256 {
		one := string([]byte{byte(b)})
		out = append(out, one, "a"+one, one+"a", one+one, one+" "+one)
	}
	chance := rand.New(rand.NewSource(1))
	for range 1000 {
		bytes := make([]byte, chance.Intn(40))
		chance.Read(bytes)
		out = append(out, string(bytes))
	}
	return out
}

// overLetters are all texts of at most so many of the letters.
func overLetters(letters string, most int) []string {
	out := []string{""}
	for from := 0; from < len(out) && len(out[from]) < most; from++ {
		for i := range len(letters) {
			out = append(out, out[from]+letters[i:i+1])
		}
	}
	return out
}

// P2.1: Quote, Unquote

func wantQuote(t *testing.T, s, w string) {
	t.Helper()
	if got := word.Quote(s); got != w {
		t.Errorf("Quote(%.60q) = %.60q, want %.60q", s, got, w)
	}
}

func wantUnquote(t *testing.T, w, s string, err api.Errno) {
	t.Helper()
	if got, e := word.Unquote(w); got != s || e != err {
		t.Errorf("Unquote(%.60q) = %.60q, %d, want %.60q, %d", w, got, e, s, err)
	}
}

// noWords are texts that are the word of no text.
var noWords = []string{
	"", " ", "\n", "%%", "%%%", "a%", "%a", "%2", "%20%", "%20%2", "%2%20", "%%20", "%20%%", "a%2", "a%%", "%.", "%-", "%+",
	"a b", " a", "a ", "a\n", "\na", "a\x00", "\x00", "(", "~", "h\u00f6", "\u20ac", "\xff", "\x80", "\t", "a!", "!a", "\"a\"",
	"%61", "%7a", "%41", "%5a", "%30", "%39", "%2e", "%5f", "%3a", "%2f", "%2b", "%2d", "%2c", "%3d", "a%61", "%61a", "%20%61",
	"%2F", "%2E", "%0A", "%0D", "%FF", "%fF", "%Ff", "%C3", "%aB", "%Ab", "%7F", "%20%0A", "%E2%82%AC",
	"%g0", "%0g", "%gg", "%zz", "%x0", "%0x", "% 0", "%0 ", "%-1", "%+1", "%1 ", "%2 0", "%20 ", " %20", "%:0", "%0:", "%/0", "%0/", "%`0", "%0`", "%@0", "%0@",
	"%\xff\xff", "%0\xff", "%\x00\x00", "%0\x00", "%u0020", "%\u0661\u0661", "%2\uff10", "%\n\n", "%0\n",
}

func TestQuote(t *testing.T) {
	wantQuote(t, "", "%")
	wantQuote(t, "a", "a")
	wantQuote(t, "a b", "a%20b")
	wantQuote(t, "%", "%25")
	wantQuote(t, "%%", "%25%25")
	wantQuote(t, "%20", "%2520")
	wantQuote(t, " ", "%20")
	wantQuote(t, "\n", "%0a")
	wantQuote(t, "a\r\n", "a%0d%0a")
	wantQuote(t, "\x00", "%00")
	wantQuote(t, "\xff", "%ff")
	wantQuote(t, "\xab\xcd\xef", "%ab%cd%ef")
	wantQuote(t, "h\u00f6rsaal", "h%c3%b6rsaal")
	wantQuote(t, "\xf6", "%f6")
	wantQuote(t, "Mo/9:30-11:00,room=3.14_b+", "Mo/9:30-11:00,room=3.14_b+")
	wantQuote(t, "(x)", "%28x%29")
	wantQuote(t, themselves, themselves)
}

// TestEachByte: each byte has the one way of being written that the chapter gives it, wherever it stands.
func TestEachByte(t *testing.T) {
	for b := range 256 {
		one, w := string([]byte{byte(b)}), written(b)
		for _, c := range []struct{ text, word string }{{one, w}, {"a" + one, "a" + w}, {one + "a", w + "a"}, {one + one, w + w}, {" " + one, "%20" + w}} {
			wantQuote(t, c.text, c.word)
			wantUnquote(t, c.word, c.text, api.OK)
		}
	}
}

func TestUnquote(t *testing.T) {
	wantUnquote(t, "%", "", api.OK)
	wantUnquote(t, "a", "a", api.OK)
	wantUnquote(t, "a%20b", "a b", api.OK)
	wantUnquote(t, "%25", "%", api.OK)
	wantUnquote(t, "%2561", "%61", api.OK)
	wantUnquote(t, "%25%25", "%%", api.OK)
	wantUnquote(t, "%00", "\x00", api.OK)
	wantUnquote(t, "%0a", "\n", api.OK)
	wantUnquote(t, "%ff%fe", "\xff\xfe", api.OK)
	wantUnquote(t, "h%c3%b6rsaal", "h\u00f6rsaal", api.OK)
	wantUnquote(t, "%20a0", " a0", api.OK)
	wantUnquote(t, "a.b_c:d/e+f-g,h=i", "a.b_c:d/e+f-g,h=i", api.OK)
	wantUnquote(t, themselves, themselves, api.OK)
}

func TestUnquoteRefusesOtherTexts(t *testing.T) {
	for _, w := range noWords {
		wantUnquote(t, w, "", api.ErrForm)
	}
}

// TestEachByteAlone: of texts of one byte those are words that stand for themselves, and the word of the empty text.
func TestEachByteAlone(t *testing.T) {
	for b := range 256 {
		one := string([]byte{byte(b)})
		switch {
		case one == "%":
			wantUnquote(t, one, "", api.OK)
		case strings.Contains(themselves, one):
			wantUnquote(t, one, one, api.OK)
			wantUnquote(t, "x"+one, "x"+one, api.OK)
		default:
			wantUnquote(t, one, "", api.ErrForm)
			wantUnquote(t, "x"+one, "", api.ErrForm)
			wantUnquote(t, one+"x", "", api.ErrForm)
		}
	}
}

// TestEachTwoBehindAMark goes through all two bytes that may stand behind a %.
func TestEachTwoBehindAMark(t *testing.T) {
	words := map[string]string{}
	for b := range 256 {
		if w := written(b); len(w) == 3 {
			words[w] = string([]byte{byte(b)})
		}
	}
	for a := range 256 {
		for b := range 256 {
			w := string([]byte{'%', byte(a), byte(b)})
			if s, ok := words[w]; ok {
				wantUnquote(t, w, s, api.OK)
			} else {
				wantUnquote(t, w, "", api.ErrForm)
			}
		}
	}
}

// form is the form of all words: behind a % the digits of the bytes that do not stand for themselves, or nothing at all.
const form = `^(?:%|(?:[a-zA-Z0-9._:/+,=-]|%(?:[0189a-f][0-9a-f]|2[0-9a]|3[bcef]|[46]0|5[b-e]|7[b-f]))+)$`

// TestShortTextsAgainstTheForm: of all short texts just those are words that are of the form.
func TestShortTextsAgainstTheForm(t *testing.T) {
	words := regexp.MustCompile(form)
	for _, w := range overLetters("aF2%05f ", 6) {
		if !words.MatchString(w) {
			wantUnquote(t, w, "", api.ErrForm)
			continue
		}
		if s, e := word.Unquote(w); truth(s) != w || e != api.OK {
			t.Errorf("Unquote(%q) = %q, %d, whose word is %q", w, s, e, truth(s))
		}
	}
}

// P2.2: Join, Split

func wantJoin(t *testing.T, l []string, line string) {
	t.Helper()
	if got := word.Join(l); got != line {
		t.Errorf("Join(%.60q) = %.60q, want %.60q", l, got, line)
	}
}

func wantSplit(t *testing.T, line string, l []string) {
	t.Helper()
	if got, n, e := word.Split(line); !slices.Equal(got, l) || n != 0 || e != api.OK {
		t.Errorf("Split(%.60q) = %.60q, %d, %d, want %.60q, 0, 0", line, got, n, e, l)
	}
}

func wantNoSplit(t *testing.T, line string, at int) {
	t.Helper()
	if got, n, e := word.Split(line); len(got) != 0 || n != at || e != api.ErrForm {
		t.Errorf("Split(%.60q) = %.60q, %d, %d, want no texts, %d, %d", line, got, n, e, at, api.ErrForm)
	}
}

func TestJoinAndSplit(t *testing.T) {
	for _, c := range []struct {
		l    []string
		line string
	}{
		{[]string{}, ""},
		{[]string{""}, "%"},
		{[]string{"", ""}, "% %"},
		{[]string{"", "", ""}, "% % %"},
		{[]string{"a b", ""}, "a%20b %"},
		{[]string{"", "a"}, "% a"},
		{[]string{"a", ""}, "a %"},
		{[]string{"a"}, "a"},
		{[]string{"a", "b"}, "a b"},
		{[]string{"class", "3", "Mo/9:30", "-1"}, "class 3 Mo/9:30 -1"},
		{[]string{" "}, "%20"},
		{[]string{" ", "  "}, "%20 %20%20"},
		{[]string{"%", "%%", "a%"}, "%25 %25%25 a%25"},
		{[]string{"a\nb", "\xff", "\x00"}, "a%0ab %ff %00"},
		{[]string{themselves, "h\u00f6"}, themselves + " h%c3%b6"},
	} {
		wantJoin(t, c.l, c.line)
		wantSplit(t, c.line, c.l)
	}
	wantJoin(t, nil, "")
}

func TestSplitTellsTheFirstThatIsNoWord(t *testing.T) {
	for _, c := range []struct {
		line string
		at   int
	}{
		{"a  b", 1}, {"a   b", 1}, {"a b  c", 2}, {"a b c ", 3}, {"  a", 0},
		{" ", 0}, {"  ", 0}, {" a", 0}, {"a ", 1}, {" a ", 0}, {"a b ", 2}, {"% ", 1}, {" %", 0}, {"%  %", 1},
		{"%61", 0}, {"a %61", 1}, {"%61 a", 0}, {"a b %61 c", 2}, {"a %2 %2", 1}, {"%% a%", 0}, {"% %% a%", 1},
		{"a b c d e f g h i j k (", 11}, {"a %2F", 1}, {"a\n", 0}, {"a b\n", 1}, {"\n", 0}, {"a\tb", 0}, {"a\tb c", 0}, {"a b\tc", 1}, {"a %\r", 1},
		{"a \xff", 1}, {"\xff a", 0}, {"a\x00 b", 0}, {"a\u00a0b", 0}, {"a \u2003 b", 1}, {"a%2 0b", 0}, {"a %2 0b", 1}, {"a%20b %2 ", 1}, {"a%20b %20 ", 2},
	} {
		wantNoSplit(t, c.line, c.at)
	}
}

// TestSplitOfNoWords lays each text that is no word into each place of lines of up to four words.
func TestSplitOfNoWords(t *testing.T) {
	for _, w := range noWords {
		// Such a text would be more than one word, or the empty line.
		if w == "" || strings.Contains(w, " ") {
			continue
		}
		for words := 1; words <= 4; words++ {
			for at := range words {
				row := slices.Repeat([]string{"a%20b"}, words)
				row[at] = w
				wantNoSplit(t, strings.Join(row, " "), at)
				for i := at; i < words; i++ {
					row[i] = w
				}
				wantNoSplit(t, strings.Join(row, " "), at)
			}
		}
	}
}

// TestSplitAgainstUnquote: all short lines, each cut at every blank.
func TestSplitAgainstUnquote(t *testing.T) {
	for _, line := range overLetters("a %20\n", 6) {
		if line == "" {
			wantSplit(t, line, nil)
			continue
		}
		var want []string
		wrong := -1
		for i, w := range strings.Split(line, " ") {
			s, e := word.Unquote(w)
			if e != api.OK && wrong < 0 {
				wrong = i
			}
			want = append(want, s)
		}
		if wrong < 0 {
			wantSplit(t, line, want)
		} else {
			wantNoSplit(t, line, wrong)
		}
	}
}

// P2.3: Lines, Text

func wantLines(t *testing.T, text string, lines []string) {
	t.Helper()
	if got, e := word.Lines(text); !slices.Equal(got, lines) || e != api.OK {
		t.Errorf("Lines(%.60q) = %.60q, %d, want %.60q, 0", text, got, e, lines)
	}
}

func wantNoLines(t *testing.T, text string) {
	t.Helper()
	if got, e := word.Lines(text); len(got) != 0 || e != api.ErrForm {
		t.Errorf("Lines(%.60q) = %.60q, %d, want no lines, %d", text, got, e, api.ErrForm)
	}
}

func wantText(t *testing.T, lines []string, text string) {
	t.Helper()
	if got := word.Text(lines); got != text {
		t.Errorf("Text(%.60q) = %.60q, want %.60q", lines, got, text)
	}
}

func TestLinesAndText(t *testing.T) {
	for _, c := range []struct {
		text  string
		lines []string
	}{
		{"", []string{}},
		{"\n", []string{""}},
		{"\n\n", []string{"", ""}},
		{"\n\n\n", []string{"", "", ""}},
		{"a\n", []string{"a"}},
		{"a\nb\n", []string{"a", "b"}},
		{"a b\n%\n", []string{"a b", "%"}},
		{"a\n\nb\n", []string{"a", "", "b"}},
		{"\na\n", []string{"", "a"}},
		{"a\n\n", []string{"a", ""}},
		{" \n  a \n", []string{" ", "  a "}},
		{"a\r\nb\r\n", []string{"a\r", "b\r"}},
		{"a\rb\n", []string{"a\rb"}},
		{"\x00\xff\n\x0b\x0c\u2028\u0085\n", []string{"\x00\xff", "\x0b\x0c\u2028\u0085"}},
		{"%0a\n", []string{"%0a"}},
	} {
		wantLines(t, c.text, c.lines)
		wantText(t, c.lines, c.text)
	}
	wantText(t, nil, "")
}

// TestTextOfAnyLines: what stands in a line is written as it is.
func TestTextOfAnyLines(t *testing.T) {
	wantText(t, []string{"a\nb"}, "a\nb\n")
	wantText(t, []string{"a\n", "b"}, "a\n\nb\n")
	wantText(t, []string{"\n"}, "\n\n")
	wantText(t, []string{every(), "", every()}, every()+"\n\n"+every()+"\n")
}

func TestLinesRefusesOtherEnds(t *testing.T) {
	for _, text := range []string{"a", " ", "a\nb", "\na", "a\n\nb", "a\n ", "a\n\r", "\n\x00", "a\r", "\r", "a%0a", "a\nb\nc\nd", "\n\n\n ", "\\n", "a\u2028", "a\x0b", "a\x85", "\x8a", "\u0a0b", "\u010a"} {
		wantNoLines(t, text)
	}
}

// TestEachLastByte: all but the line feed are refused as the last byte, and kept ahead of it.
func TestEachLastByte(t *testing.T) {
	for b := range 256 {
		if b == '\n' {
			continue
		}
		one := string([]byte{byte(b)})
		wantNoLines(t, one)
		wantNoLines(t, "a\n"+one)
		wantLines(t, one+"\n", []string{one})
		wantLines(t, "\n"+one+"a"+one+"\n", []string{"", one + "a" + one})
	}
}

// P2.4: what follows

func TestTextsComeBackFromTheirWords(t *testing.T) {
	for _, s := range texts() {
		w := word.Quote(s)
		if w != truth(s) {
			t.Errorf("Quote(%.60q) = %.60q, want %.60q", s, w, truth(s))
		}
		if w == "" || strings.ContainsAny(w, " \n") {
			t.Errorf("Quote(%.60q) = %.60q, which has no bytes, a blank or a line feed", s, w)
		}
		wantUnquote(t, w, s, api.OK)
	}
}

func TestRowsComeBackFromTheirLines(t *testing.T) {
	all := texts()
	chance := rand.New(rand.NewSource(2))
	for range 2000 {
		row := make([]string, chance.Intn(9))
		for i := range row {
			row[i] = all[chance.Intn(len(all))]
		}
		line := word.Join(row)
		if strings.Contains(line, "\n") {
			t.Errorf("Join(%.60q) = %.60q, which has a line feed", row, line)
		}
		wantSplit(t, line, row)
		wantLines(t, word.Text([]string{line, "", line}), []string{line, "", line})
	}
	wantSplit(t, word.Join(all), all)
}

// TestLinesThatAreReadAreWritten: what is read comes back as the same text; no text has two readings.
func TestLinesThatAreReadAreWritten(t *testing.T) {
	for _, s := range overLetters("a %25\n", 6) {
		if l, _, e := word.Split(s); e == api.OK {
			wantJoin(t, l, s)
		}
		if l, e := word.Lines(s); e == api.OK {
			wantText(t, l, s)
		}
	}
}

// The rules of the whole

// TestHandedInStays: rows that are handed in stay as they were, their spare room, too (R4).
func TestHandedInStays(t *testing.T) {
	whole := []string{"a b", "", "%", "spare", "room"}
	row := whole[:3]
	word.Join(row)
	word.Text(row)
	if !slices.Equal(whole, []string{"a b", "", "%", "spare", "room"}) {
		t.Errorf("a row that was handed in is now %q", whole)
	}
}

// TestHandedOutIsNew: a row that was handed out may be changed, and the same call still answers the same (R4, R6).
func TestHandedOutIsNew(t *testing.T) {
	for range 3 {
		texts, _, _ := word.Split("a b %")
		lines, _ := word.Lines("a\nb\n\n")
		for _, row := range [][]string{texts, lines} {
			if !slices.Equal(row, []string{"a", "b", ""}) {
				t.Fatalf("a row is %q, want a, b and the empty text", row)
			}
			clear(row[:cap(row)])
		}
	}
}

// TestLongTexts: what is long takes no longer, piece by piece, than what is short.
func TestLongTexts(t *testing.T) {
	blanks, marks, feeds := strings.Repeat(" ", long), strings.Repeat("%", long), strings.Repeat("\n", long)
	wantQuote(t, blanks, strings.Repeat("%20", long))
	wantUnquote(t, strings.Repeat("%20", long), blanks, api.OK)
	wantUnquote(t, strings.Repeat("%20", long)+"%", "", api.ErrForm)
	wantUnquote(t, marks, "", api.ErrForm)
	wantNoSplit(t, blanks, 0)
	wantNoSplit(t, strings.Repeat("a ", long), long)
	wantSplit(t, strings.Repeat("% ", long)+"%", make([]string, long+1))
	wantJoin(t, make([]string, long+1), strings.Repeat("% ", long)+"%")
	wantLines(t, feeds, make([]string, long))
	wantText(t, make([]string, long), feeds)
	wantNoLines(t, feeds+"a")
}
