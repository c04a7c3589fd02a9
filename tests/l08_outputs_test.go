package tests

import (
	"testing"

	"loop.example/g01375/impl"
)

// The bits in these rows were computed outside of Go, each operation rounded on
// its own, and the days with another calendar.

type lineRow struct {
	line, output string
}

func expectTold(t *testing.T, d impl.Desk, rows []lineRow) {
	t.Helper()
	for _, row := range rows {
		expectKept(t, d, row.line, row.output)
	}
}

func TestLinesThatTell(t *testing.T) {
	expectTold(t, seasonalDesk(), []lineRow{
		{"series", "40466666,c02ccccd,41040000,3e99999a,447a0000,c23c70a4,40b00000,3d8f5c29,41480000,c0533333,42c7cccd,3f800000"},
		{"state", "3dcccccd,3f333333;41300000,3e99999a,41400000;1"}, {"shares", "3dcccccd,3e4ccccd,3e99999a,3f666666"}, {"day", "60"},
		{"mean", "42b395c3"}, {"spread", "438a1f43"}, {"median", "40033333"}, {"season 1", "00000000"}, {"season 3", "c2b0c8f6,43388666,c2c043d8"}, {"season 5", "c2ae433e,c2d0fd44,c2cb33e2,c2c6b900,43c44b5a"},
		{"season 12", "c2ad6290,c2b8fc29,c2a315c3,c2b2fc29,44638d48,c308e70a,c2a895c3,c2b371ec,c29a95c3,c2ba2f5d,4121b850,c2b195c3"},
		{"guess", "3f83d70a"}, {"ahead 1", "3f83d70a"}, {"ahead 4", "3f83d70a,4154c083,414ceab3,402442ae"},
		{"by 0 2", "3f800000,3f800000"}, {"by 1 3", "3f800000,3f800000,3f800000"}, {"by 2 1", "42b395c3"}, {"by 3 3", "3f4f2095,3f1e412a,3edac37e"}, {"by 4 1", "423632bb"},
		{"date", "2000,3,1"}, {"weekday", "2"}, {"easter 1900", "-36420"}, {"easter 2000", "113"}, {"easter 2024", "8856"}, {"easter 2199", "72787"},
	})
	expectTold(t, impl.NewDesk(), []lineRow{
		{"series", "3f800000,40400000,40a00000,40e00000"}, {"state", "3f800000,40000000;00000000;0"}, {"shares", "3f000000,3f000000,00000000,3f800000"}, {"day", "0"},
		{"mean", "40800000"}, {"spread", "400f1bbd"}, {"median", "40800000"}, {"season 2", "bf800000,3f800000"}, {"guess", "40400000"}, {"ahead 2", "40400000,40a00000"}, {"by 3 1", "41100000"}, {"date", "2000,1,1"}, {"weekday", "5"},
	})
	first, last := impl.NewDesk(), impl.NewDesk()
	first.Day, last.Day = firstDay, lastDay
	expectTold(t, first, []lineRow{{"day", "-36524"}, {"date", "1900,1,1"}, {"weekday", "0"}})
	expectTold(t, last, []lineRow{{"day", "73048"}, {"date", "2199,12,31"}, {"weekday", "1"}})
}

func TestLinesThatMakeSeries(t *testing.T) {
	rows := []lineRow{
		{"sums", "40466666,3eccccc8,410a6666,410f3333,447c3ccd,447075c3,4471d5c3,4471da3e,4474fa3e,4474270b,44869052,4486b052"},
		{"even", "bea0adbf,beab6db8,be97222e,bea5de49,4052e042,befdbd51,be9c3aff,bea64b6a,be8f41a5,beac8a69,3d15de57,bea49226"},
		{"less 1", "c0b9999a,412f3333,c0fe6666,4479eccd,c482e385,425270a4,c0adc28f,4146e148,c17ccccd,42ce6667,c2c5cccd"}, {"less 11", "c0066666"},
		{"join 1", "40466666,c02ccccd,41040000,3e99999a,447a0000,c23c70a4,40b00000,3d8f5c29,41480000,c0533333,42c7cccd,3f800000"}, {"join 5", "447c3ccd,c2015c29"}, {"join 12", "4486b052"},
		{"thin 1", "40466666,c02ccccd,41040000,3e99999a,447a0000,c23c70a4,40b00000,3d8f5c29,41480000,c0533333,42c7cccd,3f800000"}, {"thin 5", "40466666,c23c70a4,42c7cccd"}, {"thin 12", "40466666"},
		{"series 80000000,00000000", "80000000,00000000"},
	}
	for _, row := range rows {
		want := seasonalDesk()
		want.Series, _ = impl.ReadNumbers(row.output)
		expectLine(t, seasonalDesk(), row.line, want, "ok")
		expectTold(t, want, []lineRow{{"series", row.output}})
	}
}

func TestLinesThatMakeStates(t *testing.T) {
	rows := []struct{ line, output, state string }{
		{"start 1", "ok", "40466666,c0b9999a;00000000;0"}, {"start 4", "ok", "400f3333,426d60a4;3f5ccccc,c09e0000,40c06666,bff80000;0"},
		{"start 12", "ok", "42b395c3,00000000;c2ad6290,c2b8fc29,c2a315c3,c2b2fc29,44638d48,c308e70a,c2a895c3,c2b371ec,c29a95c3,c2ba2f5d,4121b850,c2b195c3;0"},
		{"step 3f800000", "bcf5c280", "3f3a1cac,3f21205c;41300000,3e9573eb,41400000;2"}, {"step c2c80000", "c2ca0f5c", "c115f7ce,bfb1ff2f;41300000,c1d7d327,41400000;2"},
		{"run", "ok", "424f9dc8,c01f6c5a;c237e103,c2265805,43051dcd;1"}, {"state 80000000,00000000;80000000,3f800000;1", "ok", "80000000,00000000;80000000,3f800000;1"},
	}
	for _, row := range rows {
		want := seasonalDesk()
		want.State, _ = impl.ReadState(row.state)
		expectLine(t, seasonalDesk(), row.line, want, row.output)
		expectTold(t, want, []lineRow{{"state", row.state}})
	}
}

func TestLinesThatMakeSharesAndDays(t *testing.T) {
	for line, text := range map[string]string{"best 1 1": "00000000,00000000,00000000,3f800000", "best 3 3": "3eaaaaab,3eaaaaab,00000000,3f800000", "best 2 4": "00000000,00000000,00000000,3f800000", "best 12 2": "00000000,00000000,00000000,3f800000", "shares 80000000,3f800000,3f000000,00000001": "80000000,3f800000,3f000000,00000001"} {
		want := seasonalDesk()
		want.Shares, _ = impl.ReadShares(text)
		expectLine(t, seasonalDesk(), line, want, "ok")
		expectTold(t, want, []lineRow{{"shares", text}})
	}
	for line, day := range map[string]int64{"work 1": 61, "work 3": 65, "work 1000": 1460, "day 5": 5, "day 0": 0, "day -7": -7, "day -36524": firstDay, "day 73048": lastDay} {
		want := seasonalDesk()
		want.Day = day
		expectLine(t, seasonalDesk(), line, want, "ok")
		expectTold(t, want, []lineRow{{"day", impl.Decimal(day)}})
	}
}

func expectRefused(t *testing.T, d impl.Desk, lines ...string) {
	t.Helper()
	for _, line := range lines {
		expectKept(t, d, line, "no")
	}
}

func TestLinesBeyondLimitsAreRefused(t *testing.T) {
	for _, d := range validDesks() {
		expectRefused(t, d, "less 0", "less -1", "less 96", "join 0", "join -1", "join 97", "thin 0", "thin -1", "thin 97", "season 0", "season -1", "season 97", "start 0", "start -1", "start 25", "ahead 0", "ahead -1", "ahead 33",
			"best 0 1", "best 25 1", "best -1 1", "best 1 0", "best 1 5", "best 1 -1", "by -1 1", "by 5 1", "by 0 0", "by 0 33", "by 0 -1", "by 5 33", "work 0", "work -1", "work 1001", "easter 1899", "easter 2200", "easter 0", "easter -2000",
			"day -36525", "day 73049", "day 1000000000000000", "day -1000000000000000", "day 4294967296", "less 4294967297", "join 4294967297", "thin 1000000000000000", "season 4294967297", "start 4294967297", "ahead 4294967297", "best 4294967297 1", "best 1 4294967297", "by 4294967296 1", "by 0 4294967297", "work 4294967297", "easter 4294969296",
			"series none", "series "+bitsTimes(97), "state none", "shares none", "state 3f800000,40000000;00000000;1", "shares 3f800000,3f800000,3f800000,3f800001", "step none", "step 7f800000", "step 7fc00000")
	}
}

// TestLinesAtTheLength takes numbers up to the length of a series, and one more.
func TestLinesAtTheLength(t *testing.T) {
	for _, long := range []int64{1, 2, 5, 23, 24, 25, 95, 96} {
		d := impl.NewDesk()
		d.Series = wholeNumbers(int(long))
		is := func(line string, n int64, fine bool) {
			t.Helper()
			next, output, ok := impl.DeskCommand(d, line+" "+impl.Decimal(n))
			expect(t, line+" "+shown(n)+" of "+shown(long), shown(output == "no", ok), shown(!fine, true))
			expect(t, "a valid desk behind "+line, shown(impl.ValidDesk(next)), "true")
		}
		is("less", long-1, long > 1)
		is("less", long, false)
		for _, line := range []string{"join", "thin", "season"} {
			is(line, long, true)
			is(line, long+1, false)
		}
		is("start", min(long, impl.MaxPeriod), true)
		is("start", min(long, impl.MaxPeriod)+1, false)
		is("best 1", 4, true)
		is("best 1", 5, false)
	}
}

func TestLinesWhoseFunctionsFail(t *testing.T) {
	calm := deskOf(repeated(float32(2), 6), stateOf(2, 0, 0, 0), halfShares(), lastDay)
	expectRefused(t, calm, "even", "work 1", "work 1000", "less 6", "join 7", "thin 7")
	calm.Day = lastDay - 1
	expectTold(t, calm, []lineRow{{"weekday", "0"}, {"work 2", "no"}, {"spread", "00000000"}})
	behind := calm
	behind.Day = lastDay
	expectLine(t, calm, "work 1", behind, "ok")
	calm.Day = lastDay - 1399 // a Wednesday, 999 work days before
	expectTold(t, calm, []lineRow{{"weekday", "2"}})
	behind.Day = lastDay
	expectLine(t, calm, "work 999", behind, "ok")
	expectRefused(t, calm, "work 1000")

	one := deskOf([]float32{5}, stateOf(5, 0, 0, 0), halfShares(), 0)
	expectRefused(t, one, "even", "less 1", "join 2", "thin 2", "season 2", "start 2", "best 2 1")
	expectTold(t, one, []lineRow{{"by 3 2", "40a00000,40a00000"}, {"spread", "00000000"}})

	// A mean, a spread, a median, a sum, or a number ahead is not finite.
	high := deskOf([]float32{3e38, 3e38}, stateOf(0, 0, 0, 0), halfShares(), 0)
	expectRefused(t, high, "mean", "spread", "median", "sums", "even", "join 2", "season 1", "start 2", "by 2 1", "best 2 1")
	expectTold(t, high, []lineRow{{"by 0 1", "7f61b1e6"}, {"by 3 2", "7f61b1e6,7f61b1e6"}, {"season 2", "no"}})
	wide := deskOf([]float32{-3e38, 3e38}, stateOf(3e38, 3e38, 0, 3e38), sharesOf(1, 1, 1, 1), 0)
	expectRefused(t, wide, "spread", "even", "less 1", "start 1", "guess", "step 00000000", "run", "ahead 1", "by 3 1", "by 4 1", "best 1 1")
	expectTold(t, wide, []lineRow{{"mean", "00000000"}, {"median", "00000000"}, {"by 2 1", "00000000"}, {"state", "7f61b1e6,7f61b1e6;7f61b1e6;0"}})
	// A run that fails at its last number leaves the state of none before it.
	late := deskOf([]float32{1, 2, 3e38}, stateOf(0, 0, 0, 0, 0), sharesOf(1, 0, 0, 1), 0)
	behind = late
	behind.State = stateOf(3e38, 0, 1, 0, 0)
	expectLine(t, late, "run", behind, "ok")
	late.Series = append(late.Series, -3e38)
	expectRefused(t, late, "run")
	far := deskOf([]float32{1}, stateOf(3e38, 1e38, 0, 0), sharesOf(0, 0, 0, 1), 0)
	expectTold(t, far, []lineRow{{"guess", "no"}, {"ahead 1", "no"}})
	far.State.Slope = 2.5e37
	expectTold(t, far, []lineRow{{"guess", "7f7480b9"}, {"ahead 1", "7f7480b9"}, {"ahead 2", "no"}})
}
