package tests

import (
	"strings"
	"testing"

	"loop.example/g01375/impl"
)

// expectScript holds what a script does against the desk behind it and the
// outputs.
func expectScript(t *testing.T, d impl.Desk, script string, want impl.Desk, outputs string) {
	t.Helper()
	next, got, ok := impl.RunDesk(d, script)
	expect(t, "script "+shown(script)+" at "+shownDesk(d), shownDesk(next)+shown(got, ok), shownDesk(want)+shown(outputs, true))
}

func expectNoScript(t *testing.T, d impl.Desk, script string) {
	t.Helper()
	next, outputs, ok := impl.RunDesk(d, script)
	expect(t, "script "+shown(script), shownDesk(next)+shown(outputs, ok), shownDesk(impl.Desk{})+shown("", false))
}

// longScript has lines of all kinds; its outputs and the desk behind it were
// computed outside of Go.
const (
	longScript = "series 40000000,40400000,40a00000,40e00000,41300000,41500000\nshares 3e800000,3f000000,3f000000,3f400000\nstart 2\nstate\nguess\nstep 41880000\nstep 41980000\nstate\nrun\nstate\nahead 3\nbest 2 2\nshares\nahead 3\nless 2\nseries\nmean\nspread\nmedian\n" +
		"\nsums\nseries\neven\nseries\nless 9\nseason 2\nby 4 2\nthin 2\nseries\njoin 3\njoin 2\nseries\nday 200\ndate\nwork 10\nday\nweekday\neaster 2001\nday 900000\ndate\nwhat\nno\n"
	longOutputs = "ok\nok\nok\n40200000,3fe00000;bf000000,3f000000;0\n40540000\n415b0000\n410ff800\n413c0600,40591c00;40944000,4077f400;0\nok\n4114e5f9,3f75c64a;3f42b34c,3ff35bdf;0\n412c9679,41477ab9,413bb56d\nok\n3f000000,00000000,3f800000,3f800000\n41306d93,41520a3e,414f265c\nok\n40400000,40800000,40c00000,40c00000\n40980000\n3fa646e1\n40a00000\n" +
		"what\nok\n40400000,40e00000,41500000,41980000\nok\nbf9e5be3,bf13cd3a,3ed3252f,3fb37935\nno\nbed3252f,3ed3252f\nbb01b900,bb01b900\nok\nbf9e5be3,3ed3252f\nno\nok\nbf53252e\nok\n2000,7,19\nok\n214\n2\n470\nno\n2000,8,2\nwhat\nwhat\n"
)

func longScriptDesk() impl.Desk {
	return deskOf(fromAll(0xbf53252e), stateOf(fromBits(0x4114e5f9), fromBits(0x3f75c64a), 0, fromAll(0x3f42b34c, 0x3ff35bdf)...), sharesOf(0.5, 0, 1, 1), 214)
}

func TestRunDesk(t *testing.T) {
	expectScript(t, impl.NewDesk(), longScript, longScriptDesk(), longOutputs)
	for _, d := range validDesks() {
		moved := d
		moved.Day = 5
		expectScript(t, d, "", d, "")
		expectScript(t, d, "\n", d, "what\n")
		expectScript(t, d, "\n\n\n", d, "what\nwhat\nwhat\n")
		expectScript(t, d, "day 5\n", moved, "ok\n")
		expectScript(t, d, "day 5\nday\n", moved, "ok\n5\n")
		expectScript(t, d, "day 3\n\nday\nday 5\nday 73049\nday\nday 05\n", moved, "ok\nwhat\n3\nok\nno\n5\nno\n")
		expectScript(t, d, "day \nday 5 \n day\r\nday\r\n\x00\n", d, "no\nwhat\nwhat\nwhat\nwhat\n")
		expectScript(t, d, "series none\nstate none\nshares none\n", d, "no\nno\nno\n")
	}
}

func TestWrongScripts(t *testing.T) {
	for _, script := range []string{"mean", " ", "x", "\nmean", "mean\n\nmean", "mean\n ", "mean\n\x00", "mean\r", "day 5\nday", strings.Repeat("x", impl.MaxScript), strings.Repeat("day\n", 3999) + "days"} {
		expectNoScript(t, impl.NewDesk(), script)
	}
	for _, d := range wrongDesks() {
		for _, script := range []string{"", "\n", "mean\n", "series 3f800000\n", "state 3f800000,40000000;00000000;0\n", "shares " + bitsTimes(4) + "\n", "day 5\n", longScript} {
			expectNoScript(t, d, script)
		}
	}
}

func TestLongScripts(t *testing.T) {
	d := seasonalDesk()
	full := strings.Repeat("day\n", impl.MaxScript/4)
	expectScript(t, d, full, d, strings.Repeat("60\n", impl.MaxScript/4))
	expectScript(t, d, full[1:], d, "what\n"+strings.Repeat("60\n", impl.MaxScript/4-1))
	expectScript(t, d, strings.Repeat("\n", impl.MaxScript), d, strings.Repeat("what\n", impl.MaxScript))
	expectScript(t, d, strings.Repeat("x", impl.MaxScript-1)+"\n", d, "what\n")
	// Outputs can be longer than any script.
	long := validDesks()[6]
	text, _ := impl.NumbersText(long.Series)
	expectScript(t, long, strings.Repeat("series\n", 2000), long, strings.Repeat(text+"\n", 2000))
	for _, script := range []string{full + "\n", "\n" + full, full + full, strings.Repeat("\n", impl.MaxScript+1), strings.Repeat("x", impl.MaxScript) + "\n", strings.Repeat("\n", 1000000)} {
		expectNoScript(t, d, script)
	}
}

func TestCommandsAtWrongDesks(t *testing.T) {
	for _, d := range wrongDesks() {
		for _, f := range forms() {
			for _, line := range []string{f.line(), "", "what", f.name + " x y"} {
				next, output, ok := impl.DeskCommand(d, line)
				expect(t, "line "+shown(line)+" at "+shownDesk(d), shownDesk(next)+shown(output, ok), shownDesk(impl.Desk{})+shown("", false))
			}
		}
	}
}

func TestCountOutputs(t *testing.T) {
	rows := []struct {
		text      string
		bad, good int64
	}{
		{"", 0, 0}, {"\n", 0, 1}, {"\n\n", 0, 2}, {"no\n", 1, 0}, {"what\n", 1, 0}, {"ok\n", 0, 1}, {"no\nwhat\nno\n", 3, 0}, {"ok\nno\n4\nwhat\n\n", 2, 3}, {longOutputs, 6, 36},
		// Other words, some of which begin or end so.
		{"nothing\nwhatever\nnow\nnoo\nwhats\n", 0, 5}, {"no \n no\nwhat \n what\nno no\nwhat what\n", 0, 6}, {"n\no\nwha\nhat\nat\n", 0, 5}, {"No\nNO\nWhat\nWHAT\n", 0, 4}, {"no\r\nwhat\x00\n\xffno\n", 0, 3}, {"nowhat\nwhatno\nno,what\n", 0, 3}, {"\nno\n\nwhat\n\n", 2, 3},
		{strings.Repeat("\n", impl.MaxScript), 0, impl.MaxScript}, {strings.Repeat("what\n", impl.MaxScript/5), impl.MaxScript / 5, 0}, {strings.Repeat("no\nwxyz\n", impl.MaxScript/8), impl.MaxScript / 8, impl.MaxScript / 8}, {strings.Repeat("x", impl.MaxScript-1) + "\n", 0, 1},
	}
	for _, row := range rows {
		bad, good, ok := impl.CountOutputs(row.text)
		expect(t, "outputs of "+shown(row.text), shown(bad, good, ok), shown(row.bad, row.good, true))
	}
	wrong := []string{"no", "what", "ok", " ", "no\nno", "no\nwhat", "\nx", "ok\nno\n4\nwhat\n ", "no\n\x00", "no\r", strings.Repeat("\n", impl.MaxScript+1), strings.Repeat("x", impl.MaxScript), strings.Repeat("x", impl.MaxScript) + "\n", strings.Repeat("what\n", impl.MaxScript/5) + "\n", strings.Repeat("no\n", 1000000)}
	for _, text := range wrong {
		bad, good, ok := impl.CountOutputs(text)
		expect(t, "outputs of "+shown(text), shown(bad, good, ok), "0 0 false")
	}
}
