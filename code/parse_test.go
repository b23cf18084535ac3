package code_test

import (
	"fmt"
	"hash/crc32"
	"slices"
	"strings"
	"testing"

	"armillary/api"
	"armillary/cert"
	"armillary/code"
)

// judge tests what Parse and Sections return for bytes.
func judge(t *testing.T, what string, b []byte, parse, sizes string) {
	t.Helper()
	if got := told(code.Parse(b)); got != parse {
		t.Errorf("%s: Parse of %s: %s, not %s", what, head(b), got, parse)
	}
	if got := toldSizes(code.Sections(b)); got != sizes {
		t.Errorf("%s: Sections of %s: %s, not %s", what, head(b), got, sizes)
	}
}

// fails tests that both return an error.
func fails(t *testing.T, what string, b []byte, want api.Errno) {
	t.Helper()
	judge(t, what, b, failed(want), failed(want))
}

// sizesOf are what Sections tells of contents.
func sizesOf(l ...string) string {
	var sizes []int
	for _, s := range l {
		sizes = append(sizes, len(s))
	}
	return fmt.Sprint(sizes)
}

const (
	rest7 = "\xFF\xFF\xFF\xFF\xFF\xFF\xFF" // all digits of a number but the 8th
	even7 = "\x80\x80\x80\x80\x80\x80\x80"
)

// noNums are bytes at which no number begins, and the reader's error.
func noNums() map[string]api.Errno {
	return map[string]api.Errno{
		"": api.ErrTrunc, "\x80": api.ErrTrunc, "\xFF": api.ErrTrunc, rest7: api.ErrTrunc, even7: api.ErrTrunc,
		"\x80\x00": api.ErrForm, "\x81\x00": api.ErrForm, "\x80\x80\x00": api.ErrForm, even7 + "\x00": api.ErrForm, rest7 + "\x10": api.ErrForm, rest7 + "\x8F": api.ErrForm,
	}
}

func TestP14_2_Length(t *testing.T) {
	good := encoded(rich())
	long := strings.Repeat("x", 1<<20)
	for _, b := range []string{long + "x", long + long, "ARM1" + long, string(good) + long, string(sealed(long)), string(sealed(long[:1<<20-7]))} {
		fails(t, "more than 2^20 bytes", []byte(b), api.ErrLimit)
	}
	fails(t, "2^20 bytes without header", []byte(long), api.ErrHead)
	fails(t, "2^20 bytes without checksum", []byte("ARM1" + long)[:1<<20], api.ErrSum)
	fails(t, "2^20 bytes without sections", sealed(long[:1<<20-8]), api.ErrPart)
	for n := range 8 {
		fails(t, "few bytes", make([]byte, n), api.ErrTrunc)
		fails(t, "few bytes with header", sealed("")[:n], api.ErrTrunc)
	}
	fails(t, "8 zero bytes", make([]byte, 8), api.ErrHead)
	fails(t, "nothing between header and checksum", sealed(""), api.ErrTrunc)
}

func TestP14_2_Header(t *testing.T) {
	for _, header := range []string{"ARM0", "ARM2", "arm1", "BRM1", "ASM1", "ARN1", "1MRA", "\x00ARM", "    "} {
		b := encoded(rich())
		copy(b, header)
		fails(t, header+" and another checksum", b, api.ErrHead)
		sum := crc32.ChecksumIEEE(b[:len(b)-4])
		b = append(b[:len(b)-4], byte(sum), byte(sum>>8), byte(sum>>16), byte(sum>>24))
		fails(t, header, b, api.ErrHead)
	}
	fails(t, "a header behind something", append([]byte{0}, encoded(rich())...), api.ErrHead)
}

func TestP14_2_Checksum(t *testing.T) {
	good := encoded(rich())
	end := len(good) - 4
	sum := crc32.ChecksumIEEE(good[:end])
	for i := range 4 {
		for _, d := range []byte{1, 128, 255} {
			b := slices.Clone(good)
			b[end+i] += d
			fails(t, fmt.Sprintf("byte %d changed by %d", i, d), b, api.ErrSum)
		}
	}
	for what, s := range map[string]uint32{"none": 0, "not inverted": ^sum, "without header": crc32.ChecksumIEEE(good[4:end]), "of all": crc32.ChecksumIEEE(good), "of another kind": crc32.Checksum(good[:end], crc32.MakeTable(crc32.Castagnoli))} {
		fails(t, what, append(slices.Clone(good[:end]), byte(s), byte(s>>8), byte(s>>16), byte(s>>24)), api.ErrSum)
	}
	fails(t, "most significant byte first", append(slices.Clone(good[:end]), byte(sum>>24), byte(sum>>16), byte(sum>>8), byte(sum)), api.ErrSum)
	fails(t, "without checksum", good[:end], api.ErrSum)
	fails(t, "a byte more", append(slices.Clone(good), 0), api.ErrSum)
	b := sealed("no sections")
	b[5]++
	fails(t, "no sections, and another checksum", b, api.ErrSum)
}

// What is between the sections, ahead of each one: the sections before it are in order.
func TestP14_2_Sections(t *testing.T) {
	l := contents(rich())
	for k := range 7 {
		number := k + 1
		before := body(l[:k]...)
		fails(t, "nothing left", sealed(before), api.ErrTrunc)
		for _, n := range []int{0, number - 1, number + 1, number + 7, 127, number + 128, 128, 255} {
			fails(t, "another number", sealed(before+section(n, l[k])), api.ErrPart)
			fails(t, "another number alone", sealed(before+section(n, "")[:1]), api.ErrPart)
		}
		for s, e := range noNums() {
			fails(t, "no size", sealed(before+section(number, "")[:1]+s), e)
			fails(t, "no size of another number", sealed(before+section(9, "")[:1]+s), api.ErrPart)
		}
		for _, n := range []int{len(l[k]) + 1, len(l[k]) + 2, 128, 1 << 20, 1<<32 + len(l[k]), api.MaxNumber} {
			if n > len(l[k]) {
				fails(t, "fewer bytes than announced", sealed(before+section(number, "")[:1]+num(n)+l[k]), api.ErrTrunc)
			}
		}
	}
	for _, s := range []string{"\x00", "\x07", "\x08", "\x08\x00", "\x01\x02\x01m", string(encoded(rich()))} {
		fails(t, "bytes that remain", sealed(body(l[:]...)+s), api.ErrPart)
	}
}

// A content is one of a section's, and what Parse returns for it.
type content struct {
	what, s string
	want    api.Errno
}

// unread tests contents of a section: whatever follows behind it does not matter, and Sections skips it.
func unread(t *testing.T, number int, tries ...content) {
	t.Helper()
	for _, x := range tries {
		l := contents(rich())
		l[number-1] = x.s
		what := fmt.Sprintf("section %d: %s", number, x.what)
		judge(t, what, sealed(body(l[:]...)), failed(x.want), sizesOf(l[:]...))
		judge(t, what+", and bytes that remain", sealed(body(l[:]...)+"\x00"), failed(x.want), failed(api.ErrPart))
		for k := number; k < 7; k++ {
			l[k] = "\x80\x00"
		}
		judge(t, what+", and no content in others", sealed(body(l[:]...)), failed(x.want), sizesOf(l[:]...))
		if number < 7 {
			judge(t, what+", and nothing left", sealed(body(l[:number]...)), failed(x.want), failed(api.ErrTrunc))
			judge(t, what+", and another number", sealed(body(l[:number]...)+body(l[number:]...)), failed(x.want), failed(api.ErrPart))
		}
	}
}

// places are where numbers are read in the content of a section: each is what may be read before.
type places struct {
	number              int
	nums, counts, texts []string
}

func allPlaces() []places {
	return []places{
		{number: 1, texts: []string{""}},
		{
			number: 2,
			nums:   []string{"\x01", "\x02\x01", "\x03\x02\x05\x01a", "\x01\x07\x01\x01a\x01", "\x01\x07\x00\x03\x00\x00", "\x01\x08\x02", "\x01\x08\x02\x00", "\x01\x09", "\x01\x09\x00"},
			counts: []string{"", "\x01\x07", "\x01\x07\x01\x01a", "\x01\x07\x00", "\x01\x08", "\x04\x01\x01\x05\x01a\x07"},
			texts:  []string{"\x01\x05", "\x01\x07\x01", "\x01\x07\x02\x01a", "\x03\x09\x00\x00\x05"},
		},
		{number: 3, nums: []string{"\x01", "\x02\x00"}, counts: []string{""}},
		{number: 4, nums: []string{"\x01", "\x01\x00\x01", "\x01\x00\x02\x05", "\x02\x00\x01\x00"}, counts: []string{"", "\x01\x00", "\x02\x00\x00\x00"}},
		{number: 5, nums: []string{"\x01", "\x01\x00", "\x01\x00\x00\x01", "\x01\x00\x00\x02\x00", "\x02\x00\x00\x00"}, counts: []string{"", "\x01\x00\x00", "\x02\x00\x00\x01\x01\x00\x00"}},
		{number: 6, nums: []string{"\x01", "\x01\x00", "\x01\x00\x00", "\x02\x00\x00\x00"}, counts: []string{""}},
		{number: 7, nums: []string{"\x01\x00", "\x01\x01a", "\x02\x00\x00\x00"}, counts: []string{""}, texts: []string{"\x01", "\x02\x01a\x00"}},
	}
}

func TestP14_2_Reader(t *testing.T) {
	for _, x := range allPlaces() {
		for _, before := range slices.Concat(x.nums, x.counts, x.texts) {
			for s, e := range noNums() {
				unread(t, x.number, content{"no number", before + s, e})
			}
		}
		for _, before := range x.texts {
			unread(t, x.number,
				content{"a text that is cut off", before + "\x02a", api.ErrTrunc},
				content{"a text of 65536 bytes that is cut off", before + num(65536) + strings.Repeat("a", 65535), api.ErrTrunc},
				content{"a text of 65537 bytes", before + num(65537) + strings.Repeat("a", 65537), api.ErrLimit},
				content{"a text of 65537 bytes that is cut off", before + num(65537), api.ErrLimit},
				content{"a text of 2^53 - 1 bytes", before + num(api.MaxNumber), api.ErrLimit},
			)
		}
		for _, before := range x.counts {
			zeros := strings.Repeat("\x00", 8001)
			unread(t, x.number,
				content{"8001 elements", before + num(8001), api.ErrLimit},
				content{"8001 elements that are there", before + num(8001) + zeros, api.ErrLimit},
				content{"8001 elements that are none", before + num(8001) + "\x80\x00", api.ErrLimit},
				content{"2^53 - 1 elements", before + num(api.MaxNumber), api.ErrLimit},
				content{"2^32 elements", before + num(1<<32), api.ErrLimit},
				content{"8000 elements", before + num(8000), api.ErrTrunc},
				content{"one element", before + "\x01", api.ErrTrunc},
			)
		}
	}
}

func TestP14_2_Kinds(t *testing.T) {
	for _, kind := range []int{0, 6, 10, 11, 12, 24, 127, 128, 255, 256 + 4, 1<<32 + 4, api.MaxNumber} {
		k := num(kind)
		unread(t, 2,
			content{"a kind", "\x01" + k, api.ErrForm},
			content{"a kind, and what remains", "\x01" + k + "\x00\x00", api.ErrForm},
			content{"a kind, and what is none", "\x02" + k + "\x80", api.ErrForm},
			content{"a kind, and too many", "\x02" + k + num(8001), api.ErrForm},
			content{"a kind, and another one", "\x02" + k + "\x04", api.ErrForm},
			content{"a kind behind others", "\x04\x01\x05\x01a\x07\x00\x00" + k, api.ErrForm},
			content{"a kind, and too few", num(8000) + k, api.ErrForm},
			content{"a kind, of too many", num(8001) + k, api.ErrLimit},
			content{"a kind behind a list that is cut off", "\x02\x08\x02\x00", api.ErrTrunc},
		)
	}
}

func TestP14_2_ContentThatRemains(t *testing.T) {
	l := contents(rich())
	for k, s := range l {
		unread(t, k+1,
			content{"a byte", s + "\x00", api.ErrPart},
			content{"a byte that is no number", s + "\x80", api.ErrPart},
			content{"all again", s + s, api.ErrPart},
		)
	}
	unread(t, 1, content{"a text, and more", "\x01mm", api.ErrPart}, content{"no text, and more", "\x00m", api.ErrPart})
	for number := 2; number < 8; number++ {
		unread(t, number,
			content{"no elements, and one", "\x00\x00", api.ErrPart},
			content{"nothing", "", api.ErrTrunc},
		)
	}
}

// All contents can be read, but this is no certificate: whatever Check returns.
func TestP14_2_Check(t *testing.T) {
	for i, change := range wrong() {
		c := rich()
		change(&c)
		l := contents(c)
		judge(t, fmt.Sprintf("change %d", i), encoded(c), failed(api.ErrArg), sizesOf(l[:]...))
		for k, change := range tooLong() {
			c := cert.Copy(c)
			change(&c)
			l := contents(c)
			judge(t, fmt.Sprintf("change %d, and too long %d", i, k), encoded(c), failed(api.ErrLimit), sizesOf(l[:]...))
		}
	}
}

// A number may be any, unless it tells how many there are.
func TestP14_2_GreatNumbers(t *testing.T) {
	n := num(api.MaxNumber)
	for number, tries := range map[int][]string{
		2: {"\x01\x09" + n + "\x00", "\x01\x09\x00" + n, "\x01\x08\x02\x00" + n, "\x01\x07\x01\x01a\x01" + n},
		3: {"\x01" + n},
		4: {"\x01" + n + "\x01\x00", "\x01\x00\x01" + n},
		5: {"\x01" + n + "\x00\x01\x01", "\x01\x00" + n + "\x01\x01", "\x01\x00\x00\x01" + n},
		6: {"\x01" + n + "\x00\x00", "\x01\x00" + n + "\x00", "\x01\x00\x00" + n},
		7: {"\x01\x01a" + n},
	} {
		for _, s := range tries {
			l := contents(rich())
			l[number-1] = s
			judge(t, fmt.Sprintf("section %d: %q", number, s), sealed(body(l[:]...)), failed(api.ErrArg), sizesOf(l[:]...))
		}
	}
}

// Lists of a record that are not of one length, texts that are no names, and as many elements as may be: all these can be read.
func TestP14_2_ReadThenChecked(t *testing.T) {
	zeros := strings.Repeat("\x00", 8000)
	for number, tries := range map[int][]string{
		1: {"\x00", "\x01 ", num(65536) + strings.Repeat("m", 65536)},
		2: {"\x01\x07\x00\x01\x00", "\x01\x07\x01\x01a\x00", "\x01\x08\x00", "\x01\x05\x00", "\x01\x07" + num(8000) + zeros + num(8000) + zeros, "\x01\x08" + num(8000) + zeros},
		4: {"\x01\x00\x00", "\x01\x00" + num(8000) + zeros, num(8000) + zeros + zeros},
		5: {"\x01\x00\x00\x00", "\x01\x00\x00" + num(8000) + zeros, num(8000) + zeros + zeros + zeros},
		6: {num(8000) + zeros + zeros + zeros},
		7: {"\x01\x00\x00", num(8000) + zeros + zeros},
	} {
		for _, s := range tries {
			l := contents(rich())
			l[number-1] = s
			judge(t, fmt.Sprintf("section %d: %.50q", number, s), sealed(body(l[:]...)), failed(api.ErrArg), sizesOf(l[:]...))
		}
	}
}

// Of two faults, that of the section before counts.
func TestP14_2_FirstFault(t *testing.T) {
	faults := []struct {
		s    string
		want api.Errno
	}{{"\x80\x00", api.ErrForm}, {num(65537), api.ErrLimit}, {num(5), api.ErrTrunc}, {"\x00\x00", api.ErrPart}}
	for i := range 7 {
		for k := range 7 {
			for _, x := range faults {
				for _, y := range faults {
					l := contents(rich())
					l[k] = y.s
					l[i] = x.s
					want := x.want
					if k < i {
						want = y.want
					}
					judge(t, fmt.Sprintf("%d and %d", i+1, k+1), sealed(body(l[:]...)), failed(want), sizesOf(l[:]...))
				}
			}
		}
	}
}

func TestP14_3_Sizes(t *testing.T) {
	for _, x := range []struct {
		b    []byte
		want string
	}{
		{ended(t, bytesOfNothing), "[2 1 1 1 1 1 1]"},
		{ended(t, bytesOfInt), "[2 2 3 1 1 1 1]"},
		{ended(t, bytesOfRich), "[7 39 8 12 40 15 18]"},
		{sealed(body("", "", "", "", "", "", "")), "[0 0 0 0 0 0 0]"},
		{sealed(body("a", strings.Repeat("b", 127), strings.Repeat("c", 128), "", strings.Repeat("e", 1<<16), "\x80", "g")), "[1 127 128 0 65536 1 1]"},
		{sealed(body("", "", "", "", "", "", strings.Repeat("g", 1<<20-8-12-4))), "[0 0 0 0 0 0 1048552]"},
		{sealed(body(string(ended(t, bytesOfInt)), "\x02\x00", "", "", "", "", "")), "[33 2 0 0 0 0 0]"},
	} {
		if got := toldSizes(code.Sections(x.b)); got != x.want {
			t.Errorf("%s: %s, not %s", head(x.b), got, x.want)
		}
	}
}
