package tests

import (
	"fmt"
	"strings"
	"testing"

	"loop.example/g01375/impl"
)

func shownLines(lines []string) string { return fmt.Sprintf("%d%q", len(lines), lines) }

// checkBehind returns the check number of a line, told on its own.
func checkBehind(before int, line string) int {
	for _, b := range []byte(line) {
		before = (941*before + int(b) + 199) % 65003
	}
	return before
}

// entriesOf returns the lines of the journal of lines, told on its own.
func entriesOf(lines []string) []string {
	entries := make([]string, len(lines))
	check := 0
	for i, line := range lines {
		check = checkBehind(check, line)
		entries[i] = fmt.Sprintf("%d %s\n", check, line)
	}
	return entries
}

// wayward are lines of all kinds, none of which has a newline.
func wayward() [][]string {
	return [][]string{
		nil, {}, {""}, {"", "", ""}, {"mean"}, {"mean", "guess"}, {"guess", "mean"}, {"a b", " ", "12 x", "\xff\x00"}, {"day 5", "what", "even no", "work 1"},
		{"0 ", "0", "00", "8894 mean"}, {"\r", "\t", "é", "\x80"}, {"", "mean", "", "guess", ""}, {"day 5", "", "day", "mean ", " mean", "day  6"}, strings.Split(strings.TrimSuffix(longScript, "\n"), "\n"),
	}
}

func TestJournalOf(t *testing.T) {
	// The check numbers in these rows were computed outside of Go.
	rows := []struct {
		lines []string
		want  string
	}{
		{nil, ""}, {[]string{""}, "0 \n"}, {[]string{"", "", ""}, "0 \n0 \n0 \n"}, {[]string{"mean"}, "8894 mean\n"}, {[]string{"mean", "guess"}, "8894 mean\n53925 guess\n"}, {[]string{"guess", "mean"}, "8016 guess\n14485 mean\n"},
		{[]string{"a b", " ", "12 x", "\xff\x00"}, "32939 a b\n54402  \n44157 12 x\n7370 \xff\x00\n"}, {[]string{"day 5", "what", "even no", "work 1"}, "45705 day 5\n41594 what\n61503 even no\n14374 work 1\n"},
	}
	for _, row := range rows {
		text, ok := impl.JournalOf(row.lines)
		expect(t, "journal of "+shownLines(row.lines), shown(text, ok), shown(row.want, true))
	}
	for _, lines := range wayward() {
		text, ok := impl.JournalOf(lines)
		expect(t, "journal of "+shownLines(lines), shown(text, ok), shown(strings.Join(entriesOf(lines), ""), true))
	}
	for _, lines := range [][]string{{"\n"}, {"a\nb"}, {"mean\n"}, {"\nmean"}, {"mean", "\n"}, {"mean", "guess\n", "mean"}, {"", "", "a\n\nb"}, {strings.Repeat("x", impl.MaxScript+1), "\n"}} {
		text, ok := impl.JournalOf(lines)
		expect(t, "journal of "+shownLines(lines), shown(text, ok), noText)
	}
}

// linesOfSize returns two lines whose journal has as many bytes.
func linesOfSize(size int) []string {
	for letter := byte('a'); ; letter++ {
		lines := []string{"mean", strings.Repeat(string(letter), size-len("8894 mean\n12345 \n"))}
		// Most check numbers have five digits.
		if journal := strings.Join(entriesOf(lines), ""); len(journal) == size {
			return lines
		}
	}
}

func TestLongJournals(t *testing.T) {
	for _, lines := range [][]string{linesOfSize(impl.MaxScript), linesOfSize(impl.MaxScript - 1), make([]string, impl.MaxScript/3)} {
		text, ok := impl.JournalOf(lines)
		expect(t, "a long journal", shown(text, ok), shown(strings.Join(entriesOf(lines), ""), true))
		expectRecoveredLines(t, "a long journal", text, lines)
	}
	for _, lines := range [][]string{linesOfSize(impl.MaxScript + 1), linesOfSize(impl.MaxScript + 2), append(linesOfSize(impl.MaxScript-2), ""), append(linesOfSize(impl.MaxScript), ""), make([]string, impl.MaxScript/3+1), make([]string, 1000000), {strings.Repeat("x", 10000000)}} {
		text, ok := impl.JournalOf(lines)
		expect(t, "a journal that is too long", shown(text, ok), noText)
	}
	long := strings.Join(entriesOf(linesOfSize(impl.MaxScript)), "")
	for _, text := range []string{long + "x", long + "\n", strings.Join(entriesOf(linesOfSize(impl.MaxScript+1)), ""), "8894 mean\n" + strings.Repeat("x", impl.MaxScript), strings.Repeat("0 \n", 1000000), strings.Repeat("x", impl.MaxScript+1)} {
		lines, size, ok := impl.RecoverJournal(text)
		expect(t, "a text that is too long", shownLines(lines)+shown(size, ok), "0[]0 false")
		desk, count, ok := impl.RunJournal(impl.NewDesk(), text)
		expect(t, "a text that is too long", shownDesk(desk)+shown(count, ok), shownDesk(impl.Desk{})+"0 false")
	}
	// The text may be longer than the journal at its beginning.
	expectRecoveredLines(t, "a long text", "8894 mean\n"+strings.Repeat("x", impl.MaxScript-10), []string{"mean"})
	expectRecoveredLines(t, "a long text", strings.Repeat("x", impl.MaxScript), nil)
}

// expectRecoveredLines holds the journal at the beginning of a text, and what it
// does at a desk, against lines.
func expectRecoveredLines(t *testing.T, what, text string, want []string) {
	t.Helper()
	lines, size, ok := impl.RecoverJournal(text)
	expect(t, what, shownLines(lines)+shown(size, ok), shownLines(want)+shown(len(strings.Join(entriesOf(want), "")), true))
	behind := impl.NewDesk()
	for _, line := range want {
		behind, _, _ = impl.DeskCommand(behind, line)
	}
	desk, count, ok := impl.RunJournal(impl.NewDesk(), text)
	expect(t, "the desk behind "+what, shownDesk(desk)+shown(count, ok), shownDesk(behind)+shown(len(want), true))
}

// TestJournalsAreRecovered cuts journals at each byte, and changes each one.
func TestJournalsAreRecovered(t *testing.T) {
	for _, lines := range wayward() {
		entries := entriesOf(lines)
		text := strings.Join(entries, "")
		expectRecoveredLines(t, "a journal", text, lines)
		whole, end := 0, 0
		for place := range len(text) {
			if place == end+len(entries[whole]) {
				end = place
				whole++
			}
			what := " of the journal of " + shownLines(lines) + " at " + shown(place)
			expectRecoveredLines(t, "the beginning"+what, text[:place], lines[:whole])
			expectRecoveredLines(t, "a byte less"+what, text[:place]+text[place+1:], lines[:whole])
			expectRecoveredLines(t, "a byte more"+what, text[:place]+"0"+text[place:], lines[:whole])
			for _, b := range []byte{0x01, 0x10, 0x80, text[place] ^ '\n', text[place] ^ ' ', text[place] ^ '0'} {
				changed := []byte(text)
				changed[place] ^= b
				if b != 0 {
					expectRecoveredLines(t, "another byte"+what, string(changed), lines[:whole])
				}
			}
		}
	}
}

func TestJournalsThatAreNotIntact(t *testing.T) {
	mean := []string{"mean"}
	rows := []struct {
		text string
		want []string
	}{
		{"", nil}, {"\n", nil}, {" ", nil}, {"0", nil}, {"0 ", nil}, {"0\n", nil}, {" \n", nil}, {"0 \n", []string{""}}, {"0  \n", nil}, {"-0 \n", nil}, {"+0 \n", nil}, {"65003 \n", nil}, {"mean\n", nil}, {"x 8894 mean\n", nil},
		{"8894 mean\n", mean}, {"8894 mean", nil}, {"8894mean\n", nil}, {"8894  mean\n", nil}, {"8894 mean \n", nil}, {" 8894 mean\n", nil}, {"8894\nmean\n", nil}, {"8894 mean\r\n", nil}, {"8895 mean\n", nil}, {"8893 mean\n", nil}, {"8894 Mean\n", nil}, {"-8894 mean\n", nil}, {"+8894 mean\n", nil},
		// Zeros in front, and numbers with the same remainder.
		{"08894 mean\n", nil}, {"008894 mean\n", nil}, {"73897 mean\n", nil}, {"00 \n", nil}, {"8894.0 mean\n", nil}, {"8894 mean\n053925 guess\n", mean},
		// Something behind it.
		{"8894 mean\nx", mean}, {"8894 mean\n\n", mean}, {"8894 mean\n ", mean}, {"8894 mean\n53925 guess", mean}, {"8894 mean\n53925 gues", mean}, {"8894 mean\n53925 guess\n", []string{"mean", "guess"}}, {"8894 mean\n53925 guess\n8894 mean\n", []string{"mean", "guess"}}, {"8894 mean\n8894 \n", []string{"mean", ""}}, {"8894 mean\n0 \n", mean},
		// A line that would be one at the beginning, and a journal that is intact behind one that is not.
		{"8894 mean\n8016 guess\n", mean}, {"8894 mean\n8894 mean\n", mean}, {"\n8894 mean\n", nil}, {"x\n8894 mean\n", nil}, {"8895 mean\n8894 mean\n", nil}, {"8894 mean\nx\n53925 guess\n", mean}, {"8895 mean\n53925 guess\n", nil}, {"8894 meam\n53925 guess\n", nil}, {"53925 guess\n", nil}, {"53925 guess\n8894 mean\n", nil}, {"0 \n8894 mean\n", []string{"", "mean"}},
	}
	for _, row := range rows {
		expectRecoveredLines(t, "the journal at "+shown(row.text), row.text, row.want)
	}
}

func TestRunJournal(t *testing.T) {
	text, _ := impl.JournalOf(strings.Split(strings.TrimSuffix(longScript, "\n"), "\n"))
	desk, count, ok := impl.RunJournal(impl.NewDesk(), text)
	expect(t, "the desk behind a journal", shownDesk(desk)+shown(count, ok), shownDesk(longScriptDesk())+"42 true")
	for _, d := range validDesks() {
		desk, count, ok := impl.RunJournal(d, "")
		expect(t, "the desk behind no lines", shownDesk(desk)+shown(count, ok), shownDesk(d)+"0 true")
		// All lines count, whatever they output.
		text, _ := impl.JournalOf([]string{"day x", "", "what", "day 73049", "series none", "day"})
		desk, count, ok = impl.RunJournal(d, text)
		expect(t, "the desk behind refused lines", shownDesk(desk)+shown(count, ok), shownDesk(d)+"6 true")
		text, _ = impl.JournalOf([]string{"what", "day 5", "day x"})
		d.Day = 5
		desk, count, ok = impl.RunJournal(d, text+"x")
		expect(t, "the desk behind a journal", shownDesk(desk)+shown(count, ok), shownDesk(d)+"3 true")
	}
	for _, d := range wrongDesks() {
		for _, text := range []string{"", "x", "8894 mean\n", "0 \n"} {
			desk, count, ok := impl.RunJournal(d, text)
			expect(t, "a journal at "+shownDesk(d), shownDesk(desk)+shown(count, ok), shownDesk(impl.Desk{})+"0 false")
		}
	}
}
