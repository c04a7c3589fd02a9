package tests

import (
	"encoding/binary"
	"encoding/hex"
	"fmt"
	"strings"
	"testing"

	"loop.example/g01375/impl"
)

func savedOf(name string, day int64, numbers ...float32) impl.Saved {
	return impl.Saved{Name: name, Day: day, Numbers: numbers}
}

// shownSaved tells saved ones with the bits of all numbers.
func shownSaved(list ...impl.Saved) string {
	texts := make([]string, len(list))
	for i, s := range list {
		texts[i] = fmt.Sprintf("%q %d %s", s.Name, s.Day, shown(s.Numbers))
	}
	return "[" + strings.Join(texts, "; ") + "]"
}

// checked appends the check number, told on its own.
func checked(bytes string) string {
	check := 0
	for _, b := range []byte(bytes) {
		check = (941*check + int(b) + 199) % 65003
	}
	return bytes + string([]byte{byte(check), byte(check >> 8)})
}

// unchecked returns bytes like those of a file, valid or not, up to the check
// number.
func unchecked(mark, name string, day uint32, bits ...uint32) string {
	bytes := append([]byte(mark), byte(len(name)))
	bytes = append(bytes, name...)
	bytes = binary.LittleEndian.AppendUint32(bytes, day)
	bytes = append(bytes, byte(len(bits)))
	for _, n := range bits {
		bytes = binary.LittleEndian.AppendUint32(bytes, n)
	}
	return string(bytes)
}

func validSaved() []impl.Saved {
	minusZero := fromBits(negZero)
	return []impl.Saved{
		savedOf("a", 5, 1.5), savedOf("z", 1000000, tiny()...), savedOf("abcdefgh", -1000000, minusZero, 0), savedOf("rough", 123456, rough()...),
		savedOf("x", 0, minusZero), savedOf("series", -1, wholeNumbers(impl.MaxLong)...), savedOf("zzzzzzzz", 999999, 3.4e38, -3.4e38), savedOf("b", -999999, 0),
	}
}

func wrongSaved() []impl.Saved {
	wrong := []impl.Saved{{}, {Name: "a"}, {Name: "a", Numbers: []float32{}}}
	for _, name := range []string{"", "abcdefghi", "A", "a1", "a b", "a\x00", "\x00", "é", "\xff", "{", "`", "aZ", "a\n", strings.Repeat("a", 256), strings.Repeat("a", 1000)} {
		wrong = append(wrong, savedOf(name, 5, 1.5))
	}
	for _, day := range append(farInts()[1:], -1000001, 1000001, 4294967295, 4294967296-1000000) {
		wrong = append(wrong, savedOf("a", day, 1.5))
	}
	for _, list := range wrongSeries() {
		wrong = append(wrong, savedOf("a", 5, list...))
	}
	return wrong
}

func TestValidSaved(t *testing.T) {
	for _, s := range validSaved() {
		expect(t, "valid: "+shownSaved(s), shown(impl.ValidSaved(s)), "true")
	}
	for _, s := range wrongSaved() {
		expect(t, "valid: "+shownSaved(s), shown(impl.ValidSaved(s)), "false")
	}
}

func TestSameSaved(t *testing.T) {
	all := append(validSaved(), wrongSaved()...)
	for i, s := range all {
		// Not-a-numbers are one value, and a nil list is an empty one.
		expect(t, "the same: "+shownSaved(s, s), shown(impl.SameSaved([]impl.Saved{s}, []impl.Saved{s})), "true")
		for k, other := range all {
			want := shownSaved(s) == shownSaved(other)
			expect(t, "the same: "+shownSaved(s, other), shown(impl.SameSaved([]impl.Saved{s}, []impl.Saved{other})), shown(want))
			expect(t, "the same behind another one", shown(impl.SameSaved([]impl.Saved{all[0], s}, []impl.Saved{all[0], other})), shown(want))
			expect(t, "the same turned around", shown(impl.SameSaved([]impl.Saved{s, other}, []impl.Saved{other, s})), shown(want || i == k))
		}
	}
	a, b := savedOf("a", 5, 1.5), savedOf("b", 5, 1.5)
	rows := []struct {
		a, b []impl.Saved
		want bool
	}{
		{nil, nil, true}, {nil, []impl.Saved{}, true}, {[]impl.Saved{}, nil, true}, {all, all, true}, {repeated(a, 1000), repeated(a, 1000), true},
		{nil, []impl.Saved{a}, false}, {[]impl.Saved{a}, nil, false}, {[]impl.Saved{a}, []impl.Saved{a, a}, false}, {[]impl.Saved{a, b}, []impl.Saved{a}, false},
		{[]impl.Saved{a, b}, []impl.Saved{a, b}, true}, {[]impl.Saved{a, b}, []impl.Saved{b, a}, false}, {[]impl.Saved{a}, []impl.Saved{b}, false}, {nil, []impl.Saved{{}}, false},
		{[]impl.Saved{a}, []impl.Saved{savedOf("a", 6, 1.5)}, false}, {[]impl.Saved{a}, []impl.Saved{savedOf("a", 5, 1.25)}, false},
		{[]impl.Saved{a}, []impl.Saved{savedOf("a", 5, 1.5, 1.5)}, false}, {[]impl.Saved{savedOf("a", 5, 1, 2)}, []impl.Saved{savedOf("a", 5, 2, 1)}, false},
		{[]impl.Saved{savedOf("a", 5, 0)}, []impl.Saved{savedOf("a", 5, fromBits(negZero))}, false}, {[]impl.Saved{savedOf("a", 5, fromBits(negZero))}, []impl.Saved{savedOf("a", 5, 0)}, false},
		{[]impl.Saved{savedOf("a", 5, fromBits(nanBits))}, []impl.Saved{savedOf("a", 5, fromBits(0xff800001))}, true},
		{[]impl.Saved{savedOf("a", 5, fromBits(infBits))}, []impl.Saved{savedOf("a", 5, fromBits(minusInf))}, false},
	}
	for _, row := range rows {
		expect(t, "the same: "+shownSaved(row.a...)+shownSaved(row.b...), shown(impl.SameSaved(row.a, row.b)), shown(row.want))
	}
}

func TestStoreSaved(t *testing.T) {
	rows := []struct {
		s    impl.Saved
		want string
	}{
		{savedOf("a", 5, 1.5), "53455231016145420f00010000c03f33c1"},
		{savedOf("abcdefgh", -1000000, fromBits(negZero), 0), "5345523108616263646566676800000000020000008000000000aada"},
		{savedOf("z", 1000000, tiny()...), "53455231017a80841e000501000000ffff7f000300008001008000020000807ce8"},
		{savedOf("rough", 123456, rough()...), "5345523105726f756768802411000c0000003f0000e840333353c0000040410ad7233c666606c1cdcc0c4000009841333333bf0000b040cdcc8c3f0000c0c0f593"},
	}
	for _, row := range rows {
		stored, ok := impl.StoreSaved(row.s)
		expect(t, "bytes of "+shownSaved(row.s), shown(hex.EncodeToString([]byte(stored)), ok), shown(row.want, true))
	}
	for _, s := range validSaved() {
		bits := make([]uint32, len(s.Numbers))
		for i, x := range s.Numbers {
			bits[i] = uint32(impl.BitsOf(x))
		}
		stored, ok := impl.StoreSaved(s)
		expect(t, "bytes of "+shownSaved(s), shown(stored, ok), shown(checked(unchecked("SER1", s.Name, uint32(s.Day+1000000), bits...)), true))
	}
	for _, s := range wrongSaved() {
		stored, ok := impl.StoreSaved(s)
		expect(t, "bytes of "+shownSaved(s), shown(stored, ok), shown("", false))
	}
}

func expectNotLoaded(t *testing.T, what, bytes string) {
	t.Helper()
	s, ok := impl.LoadSaved(bytes)
	expect(t, what, shownSaved(s)+shown(ok), shownSaved(impl.Saved{})+"false")
}

func TestLoadSaved(t *testing.T) {
	for _, s := range validSaved() {
		stored, _ := impl.StoreSaved(s)
		back, ok := impl.LoadSaved(stored)
		expect(t, "loaded", shownSaved(back)+shown(ok), shownSaved(s)+"true")
		for cut := range len(stored) {
			expectNotLoaded(t, "bytes cut at "+shown(cut), stored[:cut])
			expectNotLoaded(t, "bytes from "+shown(cut+1), stored[cut+1:])
			expectNotLoaded(t, "bytes without that at "+shown(cut), stored[:cut]+stored[cut+1:])
			for change := 1; change < 256; change++ {
				if len(stored) > 100 && change%16 != 1 {
					continue
				}
				changed := []byte(stored)
				changed[cut] ^= byte(change)
				expectNotLoaded(t, "bytes with another one at "+shown(cut), string(changed))
			}
		}
		for _, more := range []string{"x", "\x00", "S", stored, strings.Repeat("x", 10000)} {
			expectNotLoaded(t, "bytes and more behind them", stored+more)
			expectNotLoaded(t, "bytes and more before them", more+stored)
		}
		// Each byte counts, also where the check number is told again.
		expectNotLoaded(t, "a byte more before the check number", checked(stored[:len(stored)-2]+"\x00"))
		expectNotLoaded(t, "a byte less before the check number", checked(stored[:len(stored)-3]))
	}
	one := uint32(0x3fc00000)
	fine := checked(unchecked("SER1", "a", 1000005, one))
	back, ok := impl.LoadSaved(fine)
	expect(t, "loaded", shownSaved(back)+shown(ok), shownSaved(savedOf("a", 5, 1.5))+"true")
	wrong := []string{"", "SER1", strings.Repeat("\xff", 1000), strings.Repeat("\x00", 1000),
		checked(unchecked("SER1", "", 1000005, one)), checked(unchecked("SER1", "abcdefghi", 1000005, one)), checked(unchecked("SER1", "aB", 1000005, one)),
		checked(unchecked("SER1", "a", 2000001, one)), checked(unchecked("SER1", "a", 1<<32-1, one)), checked(unchecked("SER1", "a", 1<<31, one)),
		checked(unchecked("SER1", "a", 1000005)), checked(unchecked("SER1", "a", 1000005, make([]uint32, impl.MaxLong+1)...)), checked(unchecked("SER1", "a", 1000005, make([]uint32, 255)...)),
		checked(unchecked("SER1", "a", 1000005, nanBits)), checked(unchecked("SER1", "a", 1000005, one, 0x7f800001)), checked(unchecked("SER1", "a", 1000005, infBits)), checked(unchecked("SER1", "a", 1000005, minusInf, one)),
		checked(unchecked("SER2", "a", 1000005, one)), checked(unchecked("ser1", "a", 1000005, one)), checked(unchecked("SERI", "a", 1000005, one)), checked(unchecked("XSER1", "a", 1000005, one))}
	for i, bytes := range wrong {
		expectNotLoaded(t, "wrong bytes "+shown(i), bytes)
	}
	for _, name := range []string{strings.Repeat("a", 9), strings.Repeat("a", 255)} {
		expectNotLoaded(t, "bytes with a long name", checked(unchecked("SER1", name, 1000005, one)))
	}
}

// TestCheckNumbersAreLeast takes a file whose check number has another one of
// two bytes with the same remainder.
func TestCheckNumbersAreLeast(t *testing.T) {
	stored, ok := impl.StoreSaved(savedOf("low", 65, 1.5))
	last := len(stored) - 2
	check := binary.LittleEndian.Uint16([]byte(stored[last:]))
	expect(t, "a check number", shown(check, ok), "454 true")
	greater := binary.LittleEndian.AppendUint16([]byte(stored[:last]), check+impl.CheckSize)
	expectNotLoaded(t, "a check number that is too great", string(greater))
	list, size, ok := impl.RecoverAll(string(greater))
	expect(t, "recovered", shownSaved(list...)+shown(size, ok), "[]0 true")
}

func TestStoreAll(t *testing.T) {
	for count := range impl.MaxSaved + 1 {
		var want strings.Builder
		for _, s := range validSaved()[:count] {
			stored, _ := impl.StoreSaved(s)
			want.WriteString(stored)
		}
		all, ok := impl.StoreAll(validSaved()[:count])
		expect(t, "bytes of "+shown(count), shown(all, ok), shown(want.String(), true))
	}
	nothing := shown("", false)
	for _, count := range []int{impl.MaxSaved + 1, 1000} {
		all, ok := impl.StoreAll(repeated(savedOf("a", 5, 1.5), count))
		expect(t, "bytes of too many", shown(all, ok), nothing)
	}
	for _, wrong := range wrongSaved() {
		for _, place := range []int{0, 3, impl.MaxSaved - 1} {
			list := validSaved()
			list[place] = wrong
			all, ok := impl.StoreAll(list)
			expect(t, "bytes with "+shownSaved(wrong), shown(all, ok), nothing)
		}
		all, ok := impl.StoreAll([]impl.Saved{wrong})
		expect(t, "bytes of "+shownSaved(wrong), shown(all, ok), nothing)
	}
}

// expectRecovered holds what bytes begin with against a list.
func expectRecovered(t *testing.T, what, bytes string, want []impl.Saved) {
	t.Helper()
	all, okAll := impl.StoreAll(want)
	list, size, ok := impl.RecoverAll(bytes)
	expect(t, what, shownSaved(list...)+shown(size, ok, okAll), shownSaved(want...)+shown(len(all), true, true))
}

func TestRecoverAll(t *testing.T) {
	valid := validSaved()
	for count := range impl.MaxSaved + 1 {
		all, _ := impl.StoreAll(valid[:count])
		expectRecovered(t, "recovered "+shown(count), all, valid[:count])
		expectRecovered(t, "recovered before others", all+"x", valid[:count])
		expectRecovered(t, "recovered before others", all+"SER1\x01a", valid[:count])
	}
	expectRecovered(t, "nothing", "", nil)
	short := []impl.Saved{valid[0], valid[1], valid[2]}
	all, _ := impl.StoreAll(short)
	ends := []int{0}
	for count := range short {
		part, _ := impl.StoreAll(short[:count+1])
		ends = append(ends, len(part))
	}
	for cut := range len(all) {
		whole := 0
		for ends[whole+1] <= cut {
			whole++
		}
		expectRecovered(t, "recovered where it is cut at "+shown(cut), all[:cut], short[:whole])
		// What is intact behind something that is not, is not recovered.
		changed := []byte(all)
		changed[cut] ^= 0x11
		expectRecovered(t, "recovered where another byte is at "+shown(cut), string(changed), short[:whole])
		expectRecovered(t, "recovered where a byte more is at "+shown(cut), all[:cut]+"\x07"+all[cut:], short[:whole])
	}
}

func TestNoMoreThanMaxSavedAreRecovered(t *testing.T) {
	list := repeated(savedOf("a", 5, 1.5), impl.MaxSaved)
	one, _ := impl.StoreSaved(list[0])
	for count := impl.MaxSaved - 1; count <= 3*impl.MaxSaved; count++ {
		expectRecovered(t, "recovered of "+shown(count), strings.Repeat(one, count), list[:min(count, impl.MaxSaved)])
	}
	expectRecovered(t, "recovered of many", strings.Repeat(one, 10000), list)
}
