package tests

import (
	"fmt"
	"math"
	"math/rand"
	"slices"
	"strings"
	"testing"

	"loop.example/g01375/impl"
)

// teller carries out a line with the functions of the other chapters.
type teller struct {
	impl.Desk
	words []string
	fails bool
}

// fine notes whether a function has succeeded.
func (l *teller) fine(ok bool) { l.fails = l.fails || !ok }

func (l *teller) integer(place int) int64 {
	n, ok := impl.ReadDecimal(l.words[place])
	l.fine(ok)
	return n
}

func (l *teller) text(list []float32, ok bool) string {
	text, okText := impl.NumbersText(list)
	l.fine(ok && okText)
	return text
}

func (l *teller) textOfOne(x float32, ok bool) string { return l.text([]float32{x}, ok) }

func (l *teller) decimal(n int64, ok bool) string {
	l.fine(ok)
	return impl.Decimal(n)
}

func (l *teller) plain(text string, ok bool) string {
	l.fine(ok)
	return text
}

func (l *teller) series(list []float32, ok bool) string {
	l.fine(ok)
	l.Series = list
	return "ok"
}

func (l *teller) state(s impl.State, ok bool) string {
	l.fine(ok)
	l.State = s
	return "ok"
}

func (l *teller) shares(h impl.Shares, ok bool) string {
	l.fine(ok)
	l.Shares = h
	return "ok"
}

func (l *teller) day(n int64, ok bool) string {
	l.fine(ok)
	l.Day = n
	return "ok"
}

// tellAlone carries out a line of one word.
func (l *teller) tellAlone(name string) string {
	switch name {
	case "series":
		return l.text(l.Series, true)
	case "state":
		return l.plain(impl.StateText(l.State))
	case "shares":
		return l.plain(impl.SharesText(l.Shares))
	case "day":
		return l.decimal(l.Day, true)
	case "mean":
		return l.textOfOne(impl.MeanOf(l.Series))
	case "spread":
		return l.textOfOne(impl.SpreadOf(l.Series))
	case "median":
		return l.textOfOne(impl.MedianOf(l.Series))
	case "sums":
		return l.series(impl.RunningSums(l.Series))
	case "even":
		return l.series(impl.EvenSeries(l.Series))
	case "guess":
		return l.textOfOne(impl.GuessOf(l.State, l.Shares))
	case "run":
		return l.state(impl.RunStates(l.Series, l.State, l.Shares))
	case "date":
		year, month, day, ok := impl.DateOf(l.Day)
		l.fine(ok)
		return l.plain(impl.ListText([]int64{year, month, day}))
	case "weekday":
		return l.decimal(impl.WeekdayOf(l.Day))
	}
	return "what"
}

// tellOne carries out a line of two words.
func (l *teller) tellOne(name string) string {
	switch name {
	case "series":
		return l.series(impl.ReadNumbers(l.words[1]))
	case "state":
		return l.state(impl.ReadState(l.words[1]))
	case "shares":
		return l.shares(impl.ReadShares(l.words[1]))
	case "day":
		return l.day(l.integer(1), true)
	case "less":
		return l.series(impl.LagDifferences(l.Series, l.integer(1)))
	case "join":
		return l.series(impl.JoinSteps(l.Series, l.integer(1)))
	case "thin":
		return l.series(impl.ThinSteps(l.Series, l.integer(1)))
	case "season":
		return l.text(impl.SeasonOf(l.Series, l.integer(1)))
	case "start":
		return l.state(impl.StartState(l.Series, l.integer(1)))
	case "step":
		list, ok := impl.ReadNumbers(l.words[1])
		if l.fine(ok && len(list) == 1); l.fails {
			return "no"
		}
		next, miss, ok := impl.StepState(l.State, l.Shares, list[0])
		l.state(next, ok)
		return l.textOfOne(miss, ok)
	case "ahead":
		return l.text(impl.AheadOf(l.State, l.Shares, l.integer(1)))
	case "work":
		return l.day(impl.WorkDayBehind(l.Day, l.integer(1), nil))
	case "easter":
		return l.decimal(impl.EasterOf(l.integer(1)))
	}
	return "what"
}

// tellTwo carries out a line of three words.
func (l *teller) tellTwo(name string) string {
	switch name {
	case "best":
		best, _, ok := impl.BestShares(l.Series, l.integer(1), l.integer(2))
		return l.shares(best, ok)
	case "by":
		return l.text(impl.ForecastBy(l.Series, l.integer(1), 1, l.integer(2)))
	}
	return "what"
}

// toldByFunctions returns the desk behind a line, and its output.
func toldByFunctions(d impl.Desk, line string) (impl.Desk, string) {
	l := &teller{Desk: copiedDesk(d), words: strings.Split(line, " ")}
	output := "what"
	switch len(l.words) {
	case 1:
		output = l.tellAlone(l.words[0])
	case 2:
		output = l.tellOne(l.words[0])
	case 3:
		output = l.tellTwo(l.words[0])
	}
	if output == "what" {
		return d, output
	}
	if l.fails || !impl.ValidDesk(l.Desk) {
		return d, "no"
	}
	return l.Desk, output
}

// manyWords are words for all kinds of lines, also such that are not taken.
func manyWords() []string {
	words := []string{"", "none", "x", "7f800000", "7fc00000", "ff7fffff", "00000001", "80000000", bits1, "c1200000,40a00000", bitsTimes(4), bitsTimes(96), bitsTimes(97), "3f800000,40000000;00000000;0", "3f800000,40000000;00000000;1", "00000000,3f000000,80000000,3e800000"}
	for n := range 37 {
		words = append(words, impl.Decimal(int64(n)))
	}
	for _, n := range []int64{95, 96, 97, 200, 261, 999, 1000, 1001, 1899, 1900, 2000, 2026, 2199, 2200, -1, -2, -36524, -36525, 73044, 73048, 73049, impl.MaxValue, -impl.MaxValue, impl.MaxValue + 1, math.MinInt64} {
		words = append(words, impl.Decimal(n))
	}
	return append(words, "-0", "+1", "01", "1.0")
}

func manyLines() []string {
	lines := []string{"", "what", " mean", "mean ", "series  ", "best 1", "by 1 2 3"}
	for _, f := range forms() {
		switch f.count() {
		case 0:
			lines = append(lines, f.name)
		case 1:
			for _, word := range manyWords() {
				lines = append(lines, f.name+" "+word)
			}
		case 2:
			for _, words := range []string{"0 1", "1 0", "1 1", "1 2", "1 4", "1 5", "2 3", "3 2", "4 1", "4 32", "4 33", "5 1", "5 4", "24 1", "25 1", "0 32", "2 32", "3 32", "3 33", "-1 1", "1 -1", "x 1", "1 x", "01 1", "1 01", " 1", "1 ", " "} {
				lines = append(lines, f.name+" "+words)
			}
		}
	}
	return lines
}

func TestDesksOutputWhatFunctionsTell(t *testing.T) {
	for _, d := range validDesks() {
		for _, line := range manyLines() {
			want, output := toldByFunctions(d, line)
			expectLine(t, d, line, want, output)
		}
	}
}

// scriptOf returns lines that are drawn, the same ones for each seed.
func scriptOf(seed int64, count int) []string {
	draw := rand.New(rand.NewSource(seed))
	lines := manyLines()
	drawn := make([]string, count)
	for i := range drawn {
		drawn[i] = lines[draw.Intn(len(lines))]
		// Most numbers are far too great for short series.
		if f := forms()[draw.Intn(len(forms()))]; draw.Intn(3) > 0 {
			drawn[i] = f.line()
		}
		if draw.Intn(6) == 0 {
			text, _ := impl.NumbersText(shuffled(35, 89)[:1+draw.Intn(80)])
			drawn[i] = "series " + text
		}
	}
	return drawn
}

func joined(lines []string) string {
	return strings.Join(append(slices.Clone(lines), ""), "\n")
}

// TestScriptsGoLineByLine holds scripts, and journals, against their lines one
// by one, and against the functions.
func TestScriptsGoLineByLine(t *testing.T) {
	for seed := range int64(60) {
		for _, d := range validDesks() {
			lines := scriptOf(seed, int(seed))
			want, outputs := d, []string{}
			bad := 0
			for _, line := range lines {
				var output string
				want, output = toldByFunctions(want, line)
				outputs = append(outputs, output)
				if output == "no" || output == "what" {
					bad++
				}
			}
			script := joined(lines)
			if len(script) > impl.MaxScript {
				continue
			}
			expectScript(t, d, script, want, joined(outputs))
			if text := joined(outputs); len(text) <= impl.MaxScript {
				counted, good, ok := impl.CountOutputs(text)
				expect(t, "outputs of "+shown(script), shown(counted, good, ok), shown(bad, len(lines)-bad, true))
			}
			journal, ok := impl.JournalOf(lines)
			if !ok {
				continue
			}
			desk, count, ok := impl.RunJournal(d, journal)
			expect(t, "the desk behind "+shown(journal), shownDesk(desk)+shown(count, ok), shownDesk(want)+shown(len(lines), true))
		}
	}
}

// TestScriptsGoOn holds that two scripts one behind the other are one.
func TestScriptsGoOn(t *testing.T) {
	for seed := range int64(20) {
		lines := scriptOf(seed+100, 24)
		whole, outputs, ok := impl.RunDesk(seasonalDesk(), joined(lines))
		for cut := range lines {
			first, firstOutputs, okFirst := impl.RunDesk(seasonalDesk(), joined(lines[:cut]))
			second, secondOutputs, okSecond := impl.RunDesk(first, joined(lines[cut:]))
			expect(t, "two scripts", shownDesk(second)+shown(firstOutputs+secondOutputs, okFirst, okSecond), shownDesk(whole)+shown(outputs, ok, ok))
		}
	}
}

// TestDesksAreReadBack holds that a desk is told by its outputs.
func TestDesksAreReadBack(t *testing.T) {
	for _, d := range validDesks() {
		_, outputs, ok := impl.RunDesk(d, "series\nstate\nshares\nday\n")
		parts := strings.Split(outputs, "\n")
		if !ok || len(parts) != 5 {
			t.Fatalf("outputs of %s: %q, %t", shownDesk(d), outputs, ok)
		}
		script := fmt.Sprintf("series %s\nstate %s\nshares %s\nday %s\n", parts[0], parts[1], parts[2], parts[3])
		expectScript(t, impl.NewDesk(), script, d, "ok\nok\nok\nok\n")
	}
}

func TestDeskExamples(t *testing.T) {
	_, outputs, ok := impl.RunDesk(impl.NewDesk(), "mean\nguess\nweekday\n")
	expect(t, "outputs at a new desk", shown(outputs, ok), shown("40800000\n40400000\n5\n", true))
	for line, want := range map[string]string{"mean": "40800000", "guess": "40400000", "weekday": "5"} {
		_, output, ok := impl.DeskCommand(impl.NewDesk(), line)
		expect(t, line+" at a new desk", shown(output, ok), shown(want, true))
	}
}
