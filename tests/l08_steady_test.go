package tests

import (
	"slices"
	"strings"
	"testing"

	"loop.example/g01375/impl"
)

// wildLines are lines that a desk might not expect.
func wildLines() []string {
	lines := []string{strings.Repeat("x", 100000), strings.Repeat(" ", 100000), strings.Repeat("mean\n", 1000), "series " + strings.Repeat(bits1+",", 100000), "state " + strings.Repeat(";", 100000), "day " + strings.Repeat("9", 100000), "\x00", "\xff\xfe", "day \xff", "step \x00", "best \xff \xff", "by 99999999999999999999 1"}
	for _, f := range forms() {
		lines = append(lines, f.line(), f.name+" ", f.name+"  ", f.name+" 0", f.name+" 1 1", f.name+" -9223372036854775808")
	}
	return lines
}

func TestDeskCallsAreSteady(t *testing.T) {
	desks := slices.Concat(validDesks(), wrongDesks(), changedDesks())
	for _, d := range desks {
		expectSteady(t, "parts of "+shownDesk(d), func() string {
			stateText, okState := impl.StateText(d.State)
			sharesText, okShares := impl.SharesText(d.Shares)
			return shown(impl.ValidDesk(d), impl.SameDesk(d, d), stateText, okState, sharesText, okShares)
		})
		for _, line := range wildLines() {
			expectSteady(t, "a line at "+shownDesk(d), func() string {
				next, output, ok := impl.DeskCommand(d, line)
				return shownDesk(next) + shown(output, ok)
			})
		}
		for _, text := range []string{"", "\n", longScript, "8894 mean\n", strings.Repeat("\n", 2*impl.MaxScript)} {
			expectSteady(t, "a script at "+shownDesk(d), func() string {
				next, outputs, ok := impl.RunDesk(d, text)
				behind, count, okJournal := impl.RunJournal(d, text)
				return shownDesk(next) + shownDesk(behind) + shown(outputs, ok, count, okJournal)
			})
		}
	}
}

func TestDeskTextCallsAreSteady(t *testing.T) {
	texts := slices.Concat(wildLines(), wrongStateTexts(), wrongShareTexts(), wrongSeriesTexts(), []string{longScript, longOutputs, strings.Repeat("0 \n", 6000), strings.Repeat("1", 16000)})
	for i, text := range texts {
		expectSteady(t, "readers of the text "+shown(i), func() string {
			s, okState := impl.ReadState(text)
			h, okShares := impl.ReadShares(text)
			bad, good, okCount := impl.CountOutputs(text)
			lines, size, okLines := impl.RecoverJournal(text)
			journal, okJournal := impl.JournalOf([]string{text, text})
			return shown(s, okState, h, okShares, bad, good, okCount, size, okLines, journal, okJournal) + shownLines(lines)
		})
	}
}

// roomyDesk returns the same desk with lists that end before their memory does,
// and what is told of all of this memory.
func roomyDesk(d impl.Desk) (impl.Desk, func() string) {
	series := append(slices.Clone(d.Series), 77, 78)
	season := append(slices.Clone(d.State.Season), 79, 80)
	d.Series, d.State.Season = roomy(series), roomy(season)
	return d, func() string { return shown(series, season) + shownDesk(d) }
}

func TestDeskArgumentsAreLeft(t *testing.T) {
	for _, given := range append(validDesks(), wrongDesks()...) {
		d, told := roomyDesk(given)
		before := told()
		for _, line := range wildLines() {
			impl.DeskCommand(d, line)
		}
		impl.RunDesk(d, longScript)
		impl.RunDesk(d, "")
		journal, _ := impl.JournalOf(strings.Split(longScript, "\n"))
		impl.RunJournal(d, journal)
		impl.ValidDesk(d)
		impl.SameDesk(d, d)
		impl.StateText(d.State)
		impl.SharesText(d.Shares)
		expect(t, "a desk behind the calls", told(), before)
	}
	whole := []string{"mean", "guess", "", "day 5", "x", "y"}
	impl.JournalOf(whole[:4])
	expect(t, "lines behind the calls", shownLines(whole), shownLines([]string{"mean", "guess", "", "day 5", "x", "y"}))
}

// expectOwn holds that a desk that is returned has a series and a season of its
// own: neither that of the desk before it, nor that of another desk.
func expectOwn(t *testing.T, what string, d impl.Desk, call func(d impl.Desk) (impl.Desk, bool)) {
	t.Helper()
	given, told := roomyDesk(d)
	before := told()
	first, ok := call(given)
	if !ok {
		t.Fatalf("%s fails", what)
	}
	want := shownDesk(first)
	season := shown(first.State.Season)
	spoil(first.Series, 101)
	expect(t, "the season behind changes of the series of "+what, shown(first.State.Season), season)
	spoil(first.State.Season, 102)
	expect(t, "the desk behind changes of a result of "+what, told(), before)
	second, _ := call(given)
	expect(t, "a result behind changes of "+what, shownDesk(second), want)
	// And the other way around.
	spoil(given.Series, 103)
	spoil(given.State.Season, 104)
	expect(t, "a result behind changes of the desk of "+what, shownDesk(second), want)
}

func TestDesksAreOwn(t *testing.T) {
	for _, d := range validDesks() {
		for _, line := range append(manyLines(), wildLines()...) {
			expectOwn(t, "line "+shown(line), d, func(d impl.Desk) (impl.Desk, bool) {
				next, _, ok := impl.DeskCommand(d, line)
				return next, ok
			})
		}
		for _, script := range []string{"", "\n", "mean\n", "series none\n", "day 5\n", longScript} {
			expectOwn(t, "script "+shown(script), d, func(d impl.Desk) (impl.Desk, bool) {
				next, _, ok := impl.RunDesk(d, script)
				return next, ok
			})
			journal, _ := impl.JournalOf(strings.Split(script, "\n"))
			for _, text := range []string{journal, script} {
				expectOwn(t, "journal "+shown(text), d, func(d impl.Desk) (impl.Desk, bool) {
					next, _, ok := impl.RunJournal(d, text)
					return next, ok
				})
			}
		}
	}
}

func TestReadStatesAndLinesAreOwn(t *testing.T) {
	text := "3f800000,40000000;00000000,3f800000;1"
	s, ok := impl.ReadState(text)
	want := shown(s, ok)
	spoil(s.Season, 77)
	s, ok = impl.ReadState(text)
	expect(t, "a state behind changes", shown(s, ok), want)
	lines, _, _ := impl.RecoverJournal("8894 mean\n53925 guess\n")
	spoil(lines, "x")
	lines, _, _ = impl.RecoverJournal("8894 mean\n53925 guess\n")
	expect(t, "lines behind changes", shownLines(lines), `2["mean" "guess"]`)
}
