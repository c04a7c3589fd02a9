package tests

import (
	"math"
	"slices"
	"testing"

	"loop.example/g01375/impl"
)

func deskOf(series []float32, s impl.State, h impl.Shares, day int64) impl.Desk {
	return impl.Desk{Series: series, State: s, Shares: h, Day: day}
}

// shownDesk tells a desk with the bits of all numbers.
func shownDesk(d impl.Desk) string {
	return "{" + shown(d.Series) + "; " + shown(d.State) + "; " + shown(d.Shares) + "; " + shown(d.Day) + "}"
}

// copiedDesk has no memory in common with d.
func copiedDesk(d impl.Desk) impl.Desk {
	d.Series, d.State.Season = slices.Clone(d.Series), slices.Clone(d.State.Season)
	return d
}

// seasonalDesk has a series, a state, and shares of which no two are equal.
func seasonalDesk() impl.Desk {
	return deskOf(wavy(), stateOf(0.1, 0.7, 1, 11, 0.3, 12), sharesOf(0.1, 0.2, 0.3, 0.9), 60)
}

func validDesks() []impl.Desk {
	minusZero := fromBits(negZero)
	return []impl.Desk{
		impl.NewDesk(), seasonalDesk(),
		deskOf(rough(), stateOf(2, -1, 4, 1, 2, 3, 4, 5), halfShares(), -1),
		deskOf(heights(), stateOf(9, 0, 0, 1, -1), sharesOf(1, 1, 1, 1), 12345),
		deskOf([]float32{5}, stateOf(0, 0, 0, 0), sharesOf(0, 0, 0, 0), firstDay),
		deskOf(repeated(float32(2), 6), stateOf(2, 0, 0, 0), sharesOf(0, 1, 0, 1), lastDay),
		deskOf(wholeNumbers(impl.MaxLong), stateOf(5, 1, 23, wholeNumbers(impl.MaxPeriod)...), sharesOf(0.2, 0.1, 0.4, 0.95), lastDay-3),
		deskOf([]float32{minusZero, 0, minusZero}, stateOf(minusZero, minusZero, 1, minusZero, 0), sharesOf(minusZero, 0, minusZero, 1), firstDay+1),
		deskOf([]float32{3e38, 3e38, -3e38, 3e38}, stateOf(3e38, 3e38, 0, 3e38), sharesOf(1, 1, 1, 1), 7),
		deskOf(steep(), stateOf(1e19, -1e18, 0, 0), halfShares(), -36000),
		deskOf(tiny(), stateOf(fromBits(1), fromBits(negZero), 4, tiny()...), sharesOf(fromBits(1), 0.5, 0.5, 0.25), 0),
	}
}

func wrongDesks() []impl.Desk {
	d := seasonalDesk()
	wrong := []impl.Desk{{}}
	for _, list := range wrongSeries() {
		wrong = append(wrong, deskOf(list, d.State, d.Shares, d.Day))
	}
	for _, s := range wrongStates() {
		wrong = append(wrong, deskOf(d.Series, s, d.Shares, d.Day))
	}
	for _, h := range wrongShares() {
		wrong = append(wrong, deskOf(d.Series, d.State, h, d.Day))
	}
	for _, day := range wrongDays() {
		wrong = append(wrong, deskOf(d.Series, d.State, d.Shares, day))
	}
	return wrong
}

func TestScriptLimit(t *testing.T) {
	expect(t, "limit", shown(impl.MaxScript), "16000")
}

func TestValidDesk(t *testing.T) {
	for _, d := range validDesks() {
		expect(t, "valid "+shownDesk(d), shown(impl.ValidDesk(d)), "true")
	}
	for _, d := range wrongDesks() {
		expect(t, "valid "+shownDesk(d), shown(impl.ValidDesk(d)), "false")
	}
	d := seasonalDesk()
	for day, want := range map[int64]bool{-36525: false, -36524: true, 0: true, 73048: true, 73049: false} {
		d.Day = day
		expect(t, "valid on the day "+shown(day), shown(impl.ValidDesk(d)), shown(want))
	}
	for long, want := range map[int]bool{0: false, 1: true, 96: true, 97: false} {
		d = seasonalDesk()
		d.Series = repeated(float32(1), long)
		expect(t, "valid with a series of "+shown(long), shown(impl.ValidDesk(d)), shown(want))
	}
}

// changedDesks differ from one another, and from the desk that they are made
// of, in one part, or in the order of its numbers.
func changedDesks() []impl.Desk {
	inf, nan, minusZero := fromBits(infBits), fromBits(nanBits), fromBits(negZero)
	d := deskOf([]float32{1, 0, 3}, stateOf(0, 5, 1, 0, 7), sharesOf(0.5, 0, 1, 0.25), 9)
	list := []impl.Desk{d}
	for _, series := range [][]float32{nil, {1}, {1, 0}, {1, 0, 3, 0}, {1, minusZero, 3}, {3, 0, 1}, {0, 1, 3}, {1, 0, nan}, {1, nan, 3}, {1, 0, inf}, {1, 0, -inf}, repeated(nan, 1000), repeated(nan, 999)} {
		list = append(list, deskOf(series, d.State, d.Shares, d.Day))
	}
	for _, s := range []impl.State{{}, stateOf(minusZero, 5, 1, 0, 7), stateOf(0, 6, 1, 0, 7), stateOf(5, 0, 1, 0, 7), stateOf(0, 5, 0, 0, 7), stateOf(0, 5, 2, 0, 7), stateOf(0, 5, 1, minusZero, 7), stateOf(0, 5, 1, 7, 0), stateOf(0, 5, 1, 0), stateOf(0, 5, 1, 0, 7, 0), stateOf(nan, 5, 1, 0, 7), stateOf(0, nan, 1, 0, 7), stateOf(0, 5, 1, 0, nan), stateOf(0, inf, 1, 0, 7)} {
		list = append(list, deskOf(d.Series, s, d.Shares, d.Day))
	}
	for _, h := range []impl.Shares{{}, sharesOf(0.5, minusZero, 1, 0.25), sharesOf(0.75, 0, 1, 0.25), sharesOf(0.5, 0.75, 1, 0.25), sharesOf(0.5, 0, 0.75, 0.25), sharesOf(0.5, 0, 1, 0.75), sharesOf(0, 0.5, 1, 0.25), sharesOf(0.5, 0, 0.25, 1), sharesOf(nan, 0, 1, 0.25), sharesOf(0.5, nan, 1, 0.25), sharesOf(0.5, 0, nan, 0.25), sharesOf(0.5, 0, 1, nan), sharesOf(0.5, 0, 1, -inf)} {
		list = append(list, deskOf(d.Series, d.State, h, d.Day))
	}
	for _, day := range []int64{8, 10, -9, 0, 9 + 1<<32, math.MaxInt64, math.MinInt64} {
		list = append(list, deskOf(d.Series, d.State, d.Shares, day))
	}
	return append(list, impl.Desk{})
}

func TestSameDesk(t *testing.T) {
	desks := changedDesks()
	for i, a := range desks {
		for k, b := range desks {
			expect(t, "the same: "+shownDesk(a)+" and "+shownDesk(b), shown(impl.SameDesk(a, copiedDesk(b))), shown(i == k))
		}
	}
	nan, other := fromBits(nanBits), fromBits(0xff800001)
	a := deskOf([]float32{nan, other}, stateOf(nan, other, -3, other), sharesOf(nan, other, nan, other), 5)
	b := deskOf([]float32{other, nan}, stateOf(other, nan, -3, nan), sharesOf(other, nan, other, nan), 5)
	expect(t, "the same not-a-numbers", shown(impl.SameDesk(a, b)), "true")
	empty := impl.Desk{Series: []float32{}, State: impl.State{Season: []float32{}}}
	expect(t, "the same empty lists", shown(impl.SameDesk(impl.Desk{}, empty), impl.SameDesk(empty, impl.Desk{})), "true true")
	for _, d := range append(validDesks(), wrongDesks()...) {
		expect(t, "the same: "+shownDesk(d), shown(impl.SameDesk(d, copiedDesk(d))), "true")
	}
}

func TestNewDesk(t *testing.T) {
	want := "{[3f800000 40400000 40a00000 40e00000]; 3f800000 40000000 [00000000] 0; 3f000000 3f000000 00000000 3f800000; 0}"
	d := impl.NewDesk()
	expect(t, "a new desk", shownDesk(d)+shown(impl.ValidDesk(d)), want+"true")
	spoil(d.Series, 77)
	expect(t, "the season behind changes of the series", shown(d.State.Season), "[00000000]")
	spoil(d.State.Season, 78)
	expect(t, "a new desk behind changes of another one", shownDesk(impl.NewDesk()), want)
}
