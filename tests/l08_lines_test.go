package tests

import (
	"slices"
	"strings"
	"testing"

	"loop.example/g01375/impl"
)

// expectLine holds what a line does against the desk behind it and its output.
func expectLine(t *testing.T, d impl.Desk, line string, want impl.Desk, output string) {
	t.Helper()
	next, got, ok := impl.DeskCommand(d, line)
	expect(t, "line "+shown(line)+" at "+shownDesk(d), shownDesk(next)+shown(got, ok), shownDesk(want)+shown(output, true))
}

// expectKept holds that a line changes nothing.
func expectKept(t *testing.T, d impl.Desk, line, output string) {
	t.Helper()
	expectLine(t, d, line, d, output)
}

// form is a line of the document's table: a word, and others behind it, which
// are such that the line succeeds at seasonalDesk.
type form struct {
	name, words string
}

func (f form) count() int { return len(strings.Fields(f.words)) }

func (f form) line() string { return strings.TrimSuffix(f.name+" "+f.words, " ") }

func forms() []form {
	return []form{
		{"series", bitsTimes(3)}, {"state", "3f800000,40000000;00000000;0"}, {"shares", bitsTimes(4)}, {"day", "5"},
		{"series", ""}, {"state", ""}, {"shares", ""}, {"day", ""}, {"mean", ""}, {"spread", ""}, {"median", ""}, {"sums", ""}, {"even", ""},
		{"less", "1"}, {"join", "2"}, {"thin", "2"}, {"season", "3"}, {"start", "2"}, {"guess", ""}, {"step", bits1}, {"run", ""}, {"ahead", "2"},
		{"best", "1 2"}, {"by", "3 2"}, {"date", ""}, {"weekday", ""}, {"work", "3"}, {"easter", "2000"},
	}
}

// changes are the names of lines by which a desk changes.
func changes() []string {
	return []string{"series", "state", "shares", "day", "sums", "even", "less", "join", "thin", "start", "step", "run", "best", "work"}
}

func TestFormsSucceed(t *testing.T) {
	for _, f := range forms() {
		next, output, ok := impl.DeskCommand(seasonalDesk(), f.line())
		if !ok || output == "" || output == "no" || output == "what" {
			t.Errorf("%q outputs %q, %t", f.line(), output, ok)
		}
		changed := slices.Contains(changes(), f.name) && (f.count() > 0 || f.name == "sums" || f.name == "even" || f.name == "run")
		expect(t, f.line()+" changes the desk", shown(shownDesk(next) != shownDesk(seasonalDesk())), shown(changed))
		if f.name != "step" {
			expect(t, f.line()+" outputs ok", shown(output == "ok"), shown(changed))
		}
	}
}

// hasForm reports whether there are lines with a name, and as many words.
func hasForm(name string, count int) bool {
	return slices.ContainsFunc(forms(), func(f form) bool { return f.name == name && f.count() == count })
}

func TestOtherLinesAreUnknown(t *testing.T) {
	d := seasonalDesk()
	for _, f := range forms() {
		line := f.line()
		// Words too few and too many; an empty word is one, too.
		for _, more := range []string{" ", "  ", "   ", " x", " 1", " 1 1", " 1 1 1", " x x x x x"} {
			if !hasForm(f.name, f.count()+strings.Count(more, " ")) {
				expectKept(t, d, line+more, "what")
			}
		}
		for count := range 5 {
			if !hasForm(f.name, count) {
				expectKept(t, d, f.name+strings.Repeat(" 1", count), "what")
				expectKept(t, d, f.name+strings.Repeat(" ", count), "what")
			}
		}
		// Blanks at the beginning and in a row.
		expectKept(t, d, " "+line, "what")
		expectKept(t, d, "  "+line, "what")
		if f.count() == 2 {
			expectKept(t, d, strings.ReplaceAll(line, " ", "  "), "what")
		}
		// Other letters, and bytes that are no letters.
		for _, name := range []string{strings.ToUpper(f.name), strings.ToUpper(f.name[:1]) + f.name[1:], f.name[1:], f.name[:len(f.name)-1], f.name + "s", "x" + f.name, f.name + "\x00", "\xff" + f.name, f.name + "\t", f.name + "\n", "\n" + f.name, f.name + "\r", f.name + ","} {
			expectKept(t, d, form{name, f.words}.line(), "what")
		}
	}
	for _, line := range []string{"", " ", "  ", "\n", "\x00", "\xff", "é", "what", "no", "ok", "mode", "TEXT", "N", "1", "none", bits1, "series\t" + bits1, "series,", "mean;", "day=5", "by", "best", "by 1", "best 1", "by  ", "step", "easter", "work", strings.Repeat("mean", 5000), strings.Repeat(" ", 100000), strings.Repeat("mean ", 100000)} {
		want := "what"
		if line == "by  " {
			want = "no"
		}
		expectKept(t, d, line, want)
	}
}

// TestTextWords holds that every word is taken for a text, also an empty one.
func TestTextWords(t *testing.T) {
	d := seasonalDesk()
	wrong := map[string][]string{"series": wrongSeriesTexts(), "state": wrongStateTexts(), "shares": wrongShareTexts()}
	for name, texts := range wrong {
		for _, text := range texts {
			output := "no"
			if strings.Contains(text, " ") {
				output = "what"
			}
			expectKept(t, d, name+" "+text, output)
		}
	}
	for _, row := range stateRows() {
		want := seasonalDesk()
		want.State = row.s
		expectLine(t, d, "state "+row.text, want, "ok")
		expectLine(t, want, "state", want, row.text)
	}
	for _, row := range shareTextRows() {
		want := seasonalDesk()
		want.Shares = row.h
		expectLine(t, d, "shares "+row.text, want, "ok")
		expectLine(t, want, "shares", want, row.text)
	}
	for text, list := range map[string][]float32{bits1: {1}, "80000000,00000000": {fromBits(negZero), 0}, bitsTimes(96): repeated(float32(1), 96), "7f7fffff,ff7fffff,00000001": {fromBits(0x7f7fffff), fromBits(0xff7fffff), fromBits(1)}} {
		want := seasonalDesk()
		want.Series = list
		expectLine(t, d, "series "+text, want, "ok")
		expectLine(t, want, "series", want, text)
	}
}

func wrongSeriesTexts() []string {
	return []string{"", "none", ",", "0", "1", "x", "3f80000", "3f8000000", "3F800000", "3f800000,", ",3f800000", "3f800000,,3f800000", "3f800000;3f800000", "3f800000,none", "3f800000 3f800000", "3f800000\n",
		"7f800000", "ff800000", "7fc00000", "7f800001", "ffffffff", "3f800000,7f800000", "3f800000,7fc00000", bitsTimes(97), bitsTimes(256), bitsTimes(257), bitsTimes(96) + ",", strings.Repeat(bits1+",", 100000)}
}

// TestNumbersInDecimal puts texts that are no numbers in the place of each
// number of a line.
func TestNumbersInDecimal(t *testing.T) {
	d := seasonalDesk()
	wrong := append(wrongDecimals(), "+2", "02", "-0", "2.0", "2,", "none", bits1, "1000000000000001", "2\n", "２")
	for _, f := range forms() {
		if f.name == "series" || f.name == "state" || f.name == "shares" || f.name == "step" {
			continue
		}
		words := strings.Fields(f.words)
		for place := range words {
			for _, text := range wrong {
				if strings.Contains(text, " ") {
					continue
				}
				others := slices.Clone(words)
				others[place] = text
				expectKept(t, d, f.name+" "+strings.Join(others, " "), "no")
			}
		}
	}
}

func TestStepsTakeOneNumber(t *testing.T) {
	d := seasonalDesk()
	for _, text := range []string{"", "none", "0", "5", "-1", "3f80000", "3f8000000", "3F800000", bitsTimes(2), bitsTimes(3), bitsTimes(256), bits1 + ",", "," + bits1, bits1 + "\n",
		// Numbers that are not finite.
		"7f800000", "ff800000", "7fc00000", "7f800001"} {
		expectKept(t, d, "step "+text, "no")
	}
	// The miss of a finite number, or a state behind it, is not finite.
	far := deskOf([]float32{1}, stateOf(-3e38, 0, 0, 0), sharesOf(0, 0, 0, 0), 0)
	expectKept(t, far, "step 7f7fffff", "no")
	steep := deskOf([]float32{1}, stateOf(3e38, 3e38, 0, -3e38), sharesOf(0, 0, 0, 0), 0)
	expectLine(t, steep, "step 00000000", deskOf([]float32{1}, stateOf(3e38, 0, 0, -3e38), sharesOf(0, 0, 0, 0), 0), "00000000")
	steep.Shares.Damp = 1
	expectKept(t, steep, "step 00000000", "no")
}
