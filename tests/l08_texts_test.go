package tests

import (
	"strings"
	"testing"

	"loop.example/g01375/impl"
)

const (
	noText = `"" false`
	bits1  = "3f800000"
)

// bitsTimes returns the text of as many ones.
func bitsTimes(count int) string {
	return strings.TrimSuffix(strings.Repeat(bits1+",", count), ",")
}

type stateRow struct {
	s    impl.State
	text string
}

func stateRows() []stateRow {
	minusZero := fromBits(negZero)
	return []stateRow{
		{stateOf(1, 2, 0, 0), "3f800000,40000000;00000000;0"},
		{stateOf(-0.5, 0.25, 1, 3, 4, -7), "bf000000,3e800000;40400000,40800000,c0e00000;1"},
		{stateOf(minusZero, 0, 0, minusZero, 0), "80000000,00000000;80000000,00000000;0"},
		{stateOf(fromBits(1), fromBits(0x807fffff), 2, fromBits(0x7f7fffff), fromBits(0xff7fffff), 1), "00000001,807fffff;7f7fffff,ff7fffff,3f800000;2"},
		{stateOf(0.1, 0.7, 1, 11, 0.3, 12), "3dcccccd,3f333333;41300000,3e99999a,41400000;1"},
		{stateOf(1, 1, 23, repeated(float32(1), 24)...), "3f800000,3f800000;" + bitsTimes(24) + ";23"},
		{stateOf(1, 1, 10, repeated(float32(1), 24)...), "3f800000,3f800000;" + bitsTimes(24) + ";10"},
	}
}

func TestStateText(t *testing.T) {
	for _, row := range stateRows() {
		text, ok := impl.StateText(row.s)
		expect(t, "text of "+shown(row.s), shown(text, ok), shown(row.text, true))
		s, ok := impl.ReadState(row.text)
		expect(t, "state of "+row.text, shown(s, ok), shown(row.s, true))
	}
	for _, s := range wrongStates() {
		text, ok := impl.StateText(s)
		expect(t, "text of "+shown(s), shown(text, ok), noText)
	}
}

// wrongStateTexts has texts of which none is that of a valid state.
func wrongStateTexts() []string {
	texts := []string{
		"", ";", ";;", ";;0", ";;;", "none", "none;none;0", "0", bits1, bits1 + "," + bits1,
		// Parts too few and too many, and empty ones.
		"3f800000,40000000", "3f800000,40000000;", "3f800000,40000000;00000000", "3f800000,40000000;00000000;", "3f800000,40000000;;0", ";00000000;0",
		"3f800000,40000000;00000000;0;", "3f800000,40000000;00000000;0;0", ";3f800000,40000000;00000000;0", "3f800000,40000000;;00000000;0", "3f800000;40000000;00000000;0",
		"3f800000,40000000;00000000,0", "3f800000,40000000,00000000;0", "0;00000000;3f800000,40000000",
		// Levels and slopes that are not two numbers.
		"none;00000000;0", "3f800000;00000000;0", "3f800000,40000000,40400000;00000000;0", "3f800000,;00000000;0", ",40000000;00000000;0", "3F800000,40000000;00000000;0",
		"3f800000,4000000;00000000;0", "3f800000 40000000;00000000;0", "3f800000,40000000,;00000000;0", "7f800001,40000000;00000000;0",
		// Seasons that are not numbers.
		"3f800000,40000000;none,00000000;0", "3f800000,40000000;0;0", "3f800000,40000000;00000000,;0", "3f800000,40000000; 00000000;0", "3f800000,40000000;0000000g;0", "3f800000,40000000;ffffffff;0",
		// Such that are read, but not valid.
		"3f800000,40000000;none;0", "3f800000,40000000;00000000;1", "3f800000,40000000;00000000;-1", "3f800000,40000000;00000000,00000000;2", "3f800000,40000000;00000000;1000000000000000", "3f800000,40000000;00000000;4294967296",
		"7f800000,40000000;00000000;0", "3f800000,ff800000;00000000;0", "7fc00000,40000000;00000000;0", "3f800000,7fc00000;00000000;0", "3f800000,40000000;7f800000;0", "3f800000,40000000;00000000,7fc00000;0",
		"3f800000,40000000;" + bitsTimes(25) + ";0", "3f800000,40000000;" + bitsTimes(25) + ";24", "3f800000,40000000;" + bitsTimes(24) + ";24", "3f800000,40000000;" + bitsTimes(256) + ";0", "3f800000,40000000;" + bitsTimes(257) + ";0",
		// Blanks and newlines.
		" 3f800000,40000000;00000000;0", "3f800000,40000000;00000000;0 ", "3f800000,40000000;00000000; 0", "3f800000,40000000;00000000;0\n", "3f800000,40000000\n;00000000;0", "3f800000,40000000;00000000;0\x00",
		strings.Repeat(";", 100000), strings.Repeat(bits1+",", 100000) + ";00000000;0",
	}
	for _, at := range wrongDecimals() {
		texts = append(texts, "3f800000,40000000;00000000,00000000;"+at)
	}
	return texts
}

func TestWrongStateTexts(t *testing.T) {
	for _, text := range wrongStateTexts() {
		s, ok := impl.ReadState(text)
		expect(t, "state of "+shown(text), shown(s, ok), noState)
	}
}

type shareTextRow struct {
	h    impl.Shares
	text string
}

func shareTextRows() []shareTextRow {
	minusZero := fromBits(negZero)
	return []shareTextRow{
		{sharesOf(0.5, 0.5, 0, 1), "3f000000,3f000000,00000000,3f800000"}, {sharesOf(0.1, 0.2, 0.3, 0.9), "3dcccccd,3e4ccccd,3e99999a,3f666666"},
		{sharesOf(0, 0, 0, 0), "00000000,00000000,00000000,00000000"}, {sharesOf(1, 1, 1, 1), "3f800000,3f800000,3f800000,3f800000"},
		{sharesOf(minusZero, fromBits(1), fromBits(0x3f7fffff), minusZero), "80000000,00000001,3f7fffff,80000000"}, {sharesOf(0.25, 0.5, 0.75, 0.125), "3e800000,3f000000,3f400000,3e000000"},
	}
}

func TestSharesText(t *testing.T) {
	for _, row := range shareTextRows() {
		text, ok := impl.SharesText(row.h)
		expect(t, "text of "+shown(row.h), shown(text, ok), shown(row.text, true))
		h, ok := impl.ReadShares(row.text)
		expect(t, "shares of "+row.text, shown(h, ok), shown(row.h, true))
	}
	for _, h := range wrongShares() {
		text, ok := impl.SharesText(h)
		expect(t, "text of "+shown(h), shown(text, ok), noText)
	}
}

// wrongShareTexts has texts of which none is that of valid shares.
func wrongShareTexts() []string {
	texts := []string{
		"", "none", ",", ",,,", "0", "0,0,0,0", bits1, bitsTimes(2), bitsTimes(3), bitsTimes(5), bitsTimes(256), bitsTimes(257), bitsTimes(4) + ",", "," + bitsTimes(4), bitsTimes(3) + ",", bitsTimes(4) + ";",
		bitsTimes(3) + ",3f80000", bitsTimes(3) + ",3f8000000", bitsTimes(3) + ",3F800000", bitsTimes(3) + " " + bits1, bitsTimes(3) + ";" + bits1, " " + bitsTimes(4), bitsTimes(4) + " ", bitsTimes(4) + "\n",
		bitsTimes(3) + ",none", bitsTimes(4) + ",none", "none," + bitsTimes(3), bitsTimes(3) + ",7f800001", bitsTimes(3) + ",ffffffff", strings.Repeat(bits1+",", 100000),
	}
	// Such that are read, but not valid.
	for _, wrong := range []string{"3f800001", "80000001", "bf800000", "40000000", "7f800000", "ff800000", "7fc00000"} {
		for place := range 4 {
			words := []string{bits1, "00000000", bits1, "00000000"}
			words[place] = wrong
			texts = append(texts, strings.Join(words, ","))
		}
	}
	return texts
}

func TestWrongShareTexts(t *testing.T) {
	for _, text := range wrongShareTexts() {
		h, ok := impl.ReadShares(text)
		expect(t, "shares of "+shown(text), shown(h, ok), shown(impl.Shares{}, false))
	}
}

// TestTextsAreReadBack holds that a text that is read is that of what is read.
func TestTextsAreReadBack(t *testing.T) {
	for _, d := range validDesks() {
		stateText, ok := impl.StateText(d.State)
		s, okBack := impl.ReadState(stateText)
		expect(t, "state of "+stateText, shown(s, ok, okBack), shown(d.State, true, true))
		sharesText, ok := impl.SharesText(d.Shares)
		h, okBack := impl.ReadShares(sharesText)
		expect(t, "shares of "+sharesText, shown(h, ok, okBack), shown(d.Shares, true, true))
		for _, text := range []string{stateText, sharesText} {
			for place := range text {
				for _, c := range []string{"", "0", "1", "f", "7", ",", ";", "-", " ", "A", "00", ",,"} {
					expectReadBack(t, text[:place]+c+text[place+1:])
				}
			}
		}
	}
}

func expectReadBack(t *testing.T, text string) {
	t.Helper()
	if s, ok := impl.ReadState(text); ok {
		back, okBack := impl.StateText(s)
		expect(t, "text of the state of "+text, shown(back, okBack), shown(text, true))
	}
	if h, ok := impl.ReadShares(text); ok {
		back, okBack := impl.SharesText(h)
		expect(t, "text of the shares of "+text, shown(back, okBack), shown(text, true))
	}
}
