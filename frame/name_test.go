package frame_test

import (
	"strings"
	"testing"
	"unicode/utf8"

	"ratchet/api"
	"ratchet/frame"
	"ratchet/leb"
)

func TestP21Rank(t *testing.T) {
	ids := []int{0, 1, 2, 3, 4, 5, 13, 6, 7, 8, 9, 12, 10, 11}
	for rank, id := range ids {
		if r := frame.Rank(id); r != rank {
			t.Errorf("Rank(%d): %d, not %d", id, r, rank)
		}
	}
	for _, id := range []int{-1 << 63, -256, -1, 14, 15, 255, 256, 257, 1<<63 - 1} {
		if r := frame.Rank(id); r != -1 {
			t.Errorf("Rank(%d): %d, not -1", id, r)
		}
	}
}

// endings are what may be missing behind the beginning of a text: no more than three bytes, and these three kinds of them are enough.
func endings() []string {
	all := []string{""}
	for from := range 13 {
		for _, c := range []string{"\x80", "\x90", "\xa0"} {
			all = append(all, all[from]+c)
		}
	}
	return all
}

// goesOn tells whether some well-formed text begins with b.
func goesOn(b []byte, endings []string) bool {
	for _, end := range endings {
		if utf8.Valid(append(b[:len(b):len(b)], end...)) {
			return true
		}
	}
	return false
}

func wantUtf8(b []byte) (int, bool) {
	if utf8.Valid(b) {
		return 0, true
	}
	all := endings()
	for i := range b {
		if !goesOn(b[:i+1], all) {
			return i, false
		}
	}
	return len(b), false
}

func checkUtf8(t *testing.T, b []byte) {
	t.Helper()
	wantAt, want := wantUtf8(b)
	if at, ok := frame.Utf8(b); at != wantAt || ok != want {
		t.Errorf("Utf8(%x): %d, %v, not %d, %v", b, at, ok, wantAt, want)
	}
}

func TestP21Utf8OfShortTexts(t *testing.T) {
	for first := range 256 {
		checkUtf8(t, []byte{byte(first)})
		for second := range 256 {
			checkUtf8(t, []byte{byte(first), byte(second)})
		}
	}
	edges := []byte{'a', 0x7f, 0x80, 0x8f, 0x90, 0x9f, 0xa0, 0xbf, 0xc0, 0xc1, 0xc2, 0xe0, 0xe1, 0xed, 0xef, 0xf0, 0xf1, 0xf4, 0xf5}
	for _, a := range edges {
		for _, b := range edges {
			for _, c := range edges {
				checkUtf8(t, []byte{a, b, c})
				for _, d := range edges {
					checkUtf8(t, []byte{a, b, c, d})
				}
			}
		}
	}
}

func TestP21Utf8OfWholeTexts(t *testing.T) {
	for _, s := range []string{"", "a", "\x00", "\x7f", "\u0080", "\u07ff", "\u0800", "\ud7ff", "\ue000", "\ufffd", "\uffff", "\U00010000", "\U0010ffff", "a\ufffdb", "grün €𝄞"} {
		if at, ok := frame.Utf8([]byte(s)); at != 0 || !ok {
			t.Errorf("Utf8(%q): %d, %v", s, at, ok)
		}
	}
	if at, ok := frame.Utf8(nil); at != 0 || !ok {
		t.Errorf("Utf8(nil): %d, %v", at, ok)
	}
}

func TestP21Utf8TellsTheFirstFault(t *testing.T) {
	for _, c := range []struct {
		s  string
		at int
	}{
		{"\xc0\x80", 0}, {"\xe2\x82", 2}, {"\xed\xa0\x80", 1}, {"\xf4\x90", 1},
		{"ab\x80", 2}, {"é\xff", 2}, {"\ufffd\xff", 3}, {"€\xe2\x82", 5}, {"\xe2\x82a", 2}, {"\xe2\x82\xe2\x82\xac", 2},
		{"\xf0\x9d\x84", 3}, {"\xf0\x9d\x84a\xff", 3}, {"\xf0\x9d\xff\xff", 2}, {"\xf0\x8f\xbf\xbf", 1}, {"\xe0\x9f\xbf", 1}, {"\xf5\x80\x80\x80", 0}, {"\xff\xc0", 0}, {"\xef\xbf", 2}, {"\xef\xbfa", 2},
	} {
		if at, ok := frame.Utf8([]byte(c.s)); at != c.at || ok {
			t.Errorf("Utf8(%x): %d, %v, not %d, false", c.s, at, ok, c.at)
		}
	}
}

func TestP22NameReads(t *testing.T) {
	long := strings.Repeat("€", api.MaxNames/3) + "a"
	for _, s := range []string{"", "a", "memory", "grün €𝄞", "\x00", "\ufffd", long} {
		for _, ahead := range []string{"", "\x05\xff"} {
			for _, behind := range []string{"", "\x01a", "\x80"} {
				b := []byte(ahead + string(leb.PutU(uint64(len(s)))) + s + behind)
				name, at, e := frame.Name(b, len(ahead))
				if name != s || at != len(b)-len(behind) || e != api.OK {
					t.Errorf("Name of %.20q in %.20q: %.20q, %d, %d", s, b, name, at, e)
				}
			}
		}
	}
	if len(long) != api.MaxNames {
		t.Errorf("the longest name has %d bytes", len(long))
	}
	if name, at, e := frame.Name([]byte("\x82\x80\x00ab"), 0); name != "ab" || at != 5 || e != api.OK {
		t.Errorf("Name behind a size that is not shortest: %q, %d, %d", name, at, e)
	}
}

func TestP22NameRefuses(t *testing.T) {
	most := string(leb.PutU(api.MaxNames))
	more := string(leb.PutU(api.MaxNames + 1))
	for _, c := range []struct {
		b      string
		at     int
		wantAt int
		e      api.Errno
	}{
		{"\x01a", -1, 0, api.ErrArg},
		{"\x01a", -1 << 63, 0, api.ErrArg},
		{"\x01a", 3, 0, api.ErrArg},
		{"\x01a", 1<<63 - 1, 0, api.ErrArg},
		{"", 1, 0, api.ErrArg},
		{"", 0, 0, api.ErrShort},
		{"\x01a", 2, 2, api.ErrShort},
		{"a\x80", 1, 2, api.ErrShort},
		{"a\x80\x80\x80\x80\x10", 1, 5, api.ErrForm},
		{"a\x80\x80\x80\x80\x80", 1, 5, api.ErrForm},
		{"a" + more, 1, 1, api.ErrLong},
		{"a\xff\xff\xff\xff\x0f", 1, 1, api.ErrLong},
		{more + strings.Repeat("\xff", api.MaxNames+1), 0, 0, api.ErrLong},
		{"a" + most, 1, 4, api.ErrShort},
		{most + strings.Repeat("a", api.MaxNames-1), 0, 3 + api.MaxNames - 1, api.ErrShort},
		{"\x05a", 0, 2, api.ErrShort},
		{"\x05\xff", 0, 2, api.ErrShort},
		{"\x01\xff", 0, 1, api.ErrName},
		{"aa\x02b\xff", 2, 4, api.ErrName},
		{"\x02\xe2\x82\xac", 0, 3, api.ErrName},
		{"\x02\xe2\x82", 0, 3, api.ErrName},
		{"\x03\xed\xa0\x80", 0, 2, api.ErrName},
		{"\x82\x00\xc0\x80", 0, 2, api.ErrName},
		{"\x04\xf4\x90\x80\x80", 0, 2, api.ErrName},
	} {
		if name, at, e := frame.Name([]byte(c.b), c.at); name != "" || at != c.wantAt || e != c.e {
			t.Errorf("Name(%.20x, %d): %.20q, %d, %d, not %d, %d", c.b, c.at, name, at, e, c.wantAt, c.e)
		}
	}
	if name, at, e := frame.Name(nil, 0); name != "" || at != 0 || e != api.ErrShort {
		t.Errorf("Name(nil, 0): %q, %d, %d", name, at, e)
	}
}

func TestP22PutName(t *testing.T) {
	for s, want := range map[string]string{"": "\x00", "ab": "\x02ab", "é": "\x02é", "\ufffd": "\x03\ufffd"} {
		if b, e := frame.PutName(s); string(b) != want || e != api.OK {
			t.Errorf("PutName(%q): %x, %d", s, b, e)
		}
	}
	for _, n := range []int{127, 128, 16383, 16384, api.MaxNames} {
		s := strings.Repeat("a", n)
		if b, e := frame.PutName(s); string(b) != string(leb.PutU(uint64(n)))+s || e != api.OK {
			t.Errorf("PutName of %d bytes: %d bytes, %d", n, len(b), e)
		}
	}
	for _, c := range []struct {
		s string
		e api.Errno
	}{
		{strings.Repeat("a", api.MaxNames+1), api.ErrLong},
		{strings.Repeat("\xff", api.MaxNames+1), api.ErrLong},
		{strings.Repeat("a", api.MaxNames-1) + "\xff", api.ErrName},
		{"\xff", api.ErrName}, {"a\xc0\x80", api.ErrName}, {"\xe2\x82", api.ErrName}, {"\xed\xa0\x80", api.ErrName},
	} {
		if b, e := frame.PutName(c.s); len(b) != 0 || e != c.e {
			t.Errorf("PutName(%.20x): %d bytes, %d, not %d", c.s, len(b), e, c.e)
		}
	}
}

func TestP22NameOfPutName(t *testing.T) {
	for _, s := range []string{"", "a", "grün €𝄞", strings.Repeat("é", 100), strings.Repeat("a", api.MaxNames)} {
		b, e := frame.PutName(s)
		name, at, back := frame.Name(b, 0)
		if e != api.OK || back != api.OK || name != s || at != len(b) {
			t.Errorf("Name(PutName(%.20q)): %.20q, %d, %d, %d", s, name, at, e, back)
		}
	}
}
