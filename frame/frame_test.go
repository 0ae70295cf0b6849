package frame_test

import (
	"bytes"
	"math/rand"
	"strings"
	"testing"

	"ratchet/api"
	"ratchet/frame"
	"ratchet/leb"
)

const head = "\x00asm\x01\x00\x00\x00"

func same(a, b api.Section) bool {
	return a.ID == b.ID && a.Name == b.Name && bytes.Equal(a.Data, b.Data) && a.At == b.At
}

func sameAll(a, b []api.Section) bool {
	if len(a) != len(b) {
		return false
	}
	for i := range a {
		if !same(a[i], b[i]) {
			return false
		}
	}
	return true
}

// section writes a section's bytes, its size in the shortest form.
func section(id byte, contents string) string {
	return string(id) + string(leb.PutU(uint64(len(contents)))) + contents
}

// name writes a name that need not be one.
func name(s string) string { return string(leb.PutU(uint64(len(s)))) + s }

// inOrder is one section of each id that is not custom, in the order in which they may stand.
func inOrder() []byte { return []byte{1, 2, 3, 4, 5, 13, 6, 7, 8, 9, 12, 10, 11} }

func TestP23SplitTellsSections(t *testing.T) {
	for _, c := range []struct {
		b string
		l []api.Section
	}{
		{"", nil},
		{"\x01\x01\x00", []api.Section{{ID: 1, Data: []byte{0}, At: 10}}},
		{"\x00\x03\x01a\x07", []api.Section{{ID: 0, Name: "a", Data: []byte{7}, At: 12}}},
		{"\x00\x01\x00", []api.Section{{ID: 0, At: 11}}},
		{"\x08\x00", []api.Section{{ID: 8, At: 10}}},
		{"\x0d\x80\x00", []api.Section{{ID: 13, At: 11}}},
		{"\x00\x84\x80\x00\x82\x00ab", []api.Section{{ID: 0, Name: "ab", At: 16}}},
		{"\x00\x02\x01a\x0a\x02\x0b\x0c\x00\x03\x01ax", []api.Section{{ID: 0, Name: "a", At: 12}, {ID: 10, Data: []byte{11, 12}, At: 14}, {ID: 0, Name: "a", Data: []byte("x"), At: 20}}},
	} {
		l, at, e := frame.Split([]byte(head + c.b))
		if !sameAll(l, c.l) || at != 0 || e != api.OK {
			t.Errorf("Split(%x): %v, %d, %d, not %v", c.b, l, at, e, c.l)
		}
	}
}

func TestP23SplitRefuses(t *testing.T) {
	for _, c := range []struct {
		b  string
		at int
		e  api.Errno
	}{
		{"", 0, api.ErrShort},
		{"\x00as", 3, api.ErrShort},
		{"\x00asm\x02", 4, api.ErrForm},
		{"\x01as", 0, api.ErrForm},
		{"\x00asm\x01\x00\x00\x01", 7, api.ErrForm},
		{head + "\x0a\x01\x00\x01\x01\x00", 11, api.ErrOrder},
		{head + "\x0e\x00", 8, api.ErrForm},
		{head + "\x0e", 8, api.ErrForm},
		{head + "\xff", 8, api.ErrForm},
		{head + "\x01\x00\x0e\x00", 10, api.ErrForm},
		{head + "\x01", 9, api.ErrShort},
		{head + "\x01\x80", 10, api.ErrShort},
		{head + "\x01\x80\x80\x80\x80\x10", 13, api.ErrForm},
		{head + "\x01\x80\x80\x80\x80\x80\x00", 13, api.ErrForm},
		{head + "\x01\x05\x00", 11, api.ErrShort},
		{head + "\x01\xff\xff\xff\xff\x0f\x00", 15, api.ErrShort},
		{head + "\x00\xff\xff\xff\xff\x0f\x00", 15, api.ErrShort},
		{head + "\x00\x00", 10, api.ErrShort},
		{head + "\x00\x00\x01\x00", 10, api.ErrShort},
		{head + "\x00\x02\x01\xff", 11, api.ErrName},
		{head + "\x00\x02\x05a", 12, api.ErrShort},
		{head + "\x00\x02\x05a\x01\x03abc", 12, api.ErrShort},
		{head + "\x00\x03\x02\xe2\x82", 13, api.ErrName},
		{head + "\x00\x03\x02\xe2\x82\xac", 13, api.ErrName},
		{head + "\x00\x01\x80\x00", 11, api.ErrShort},
		{head + "\x00\x05\x80\x80\x80\x80\x10", 14, api.ErrForm},
		{head + "\x00\x03" + string(leb.PutU(api.MaxNames+1)), 10, api.ErrLong},
		{head + "\x00\x03" + string(leb.PutU(api.MaxNames)), 13, api.ErrShort},
		// From the left: the first of several faults.
		{head + "\x0a\x00\x01\x05\x00", 13, api.ErrShort},
		{head + "\x0a\x00\x01\x80", 12, api.ErrShort},
		{head + "\x0a\x00\x01\x00\x0e", 10, api.ErrOrder},
		{head + "\x00\x02\x01\xff\x0e", 11, api.ErrName},
		{head + "\x00\x09\x01\xff", 12, api.ErrShort},
		{head + "\x00\x02\x01\xff\x01\x09", 11, api.ErrName},
	} {
		l, at, e := frame.Split([]byte(c.b))
		if len(l) != 0 || at != c.at || e != c.e {
			t.Errorf("Split(%x): %v, %d, %d, not %d, %d", c.b, l, at, e, c.at, c.e)
		}
	}
	if l, at, e := frame.Split(nil); len(l) != 0 || at != 0 || e != api.ErrShort {
		t.Errorf("Split(nil): %v, %d, %d", l, at, e)
	}
}

func TestP23SplitLooksAtEachByteOfThePreamble(t *testing.T) {
	for i := range len(head) {
		if l, at, e := frame.Split([]byte(head[:i])); len(l) != 0 || at != i || e != api.ErrShort {
			t.Errorf("Split of %d bytes: %v, %d, %d", i, l, at, e)
		}
		for c := range 256 {
			if byte(c) == head[i] {
				continue
			}
			for _, behind := range []string{"", head[i+1:], strings.Repeat("\xff", 20)} {
				b := head[:i] + string([]byte{byte(c)}) + behind
				if l, at, e := frame.Split([]byte(b)); len(l) != 0 || at != i || e != api.ErrForm {
					t.Errorf("Split(%x): %v, %d, %d", b, l, at, e)
				}
			}
		}
	}
}

func TestP23SplitAsksForRisingRanks(t *testing.T) {
	ids := inOrder()
	for i, first := range ids {
		for j, second := range ids {
			for _, between := range []string{"", section(0, name("c"))} {
				b := head + section(first, "x") + between + section(second, "y")
				l, at, e := frame.Split([]byte(b))
				if i < j && (e != api.OK || at != 0 || l[len(l)-1].ID != int(second)) {
					t.Errorf("Split of %d, %d: %v, %d, %d", first, second, l, at, e)
				}
				if i >= j && (e != api.ErrOrder || at != len(b)-3 || len(l) != 0) {
					t.Errorf("Split of %d, %d: %v, %d, %d", first, second, l, at, e)
				}
			}
		}
	}
	// Not the section just ahead alone.
	b := head + section(1, "") + section(10, "") + section(0, name("c")) + section(11, "") + section(12, "")
	if _, at, e := frame.Split([]byte(b)); at != len(b)-2 || e != api.ErrOrder {
		t.Errorf("Split: %d, %d", at, e)
	}
}

// whole is a module with a section of each id, and custom ones ahead of, between and behind them.
func whole() (string, []api.Section) {
	b, l := head, []api.Section(nil)
	add := func(id byte, label, data string) {
		contents := data
		if id == 0 {
			contents = name(label) + data
		}
		b += section(id, contents)
		l = append(l, api.Section{ID: int(id), Name: label, Data: []byte(data), At: len(b) - len(data)})
	}
	for i, id := range inOrder() {
		add(0, "grün", strings.Repeat("c", i))
		add(id, "", strings.Repeat("\x00\xff", 20*i))
	}
	add(0, "", "")
	return b, l
}

func TestP23SplitOfEachBeginning(t *testing.T) {
	b, l := whole()
	got, at, e := frame.Split([]byte(b))
	if !sameAll(got, l) || at != 0 || e != api.OK {
		t.Fatalf("Split: %v, %d, %d, not %v", got, at, e, l)
	}
	ends := map[int]int{len(head): 0}
	for i, s := range l {
		ends[s.At+len(s.Data)] = i + 1
	}
	for i := range b {
		n, whole := ends[i]
		got, at, e := frame.Split([]byte(b[:i]))
		if whole && (!sameAll(got, l[:n]) || at != 0 || e != api.OK) {
			t.Errorf("Split of %d bytes: %v, %d, %d", i, got, at, e)
		}
		if !whole && (len(got) != 0 || at != i || e != api.ErrShort) {
			t.Errorf("Split of %d bytes: %v, %d, %d", i, got, at, e)
		}
	}
}

func TestP23SplitLooksAtTheLimitFirst(t *testing.T) {
	size := api.MaxModule - len(head) - 4
	b := []byte(head + section(11, strings.Repeat("d", size)))
	if len(b) != api.MaxModule {
		t.Fatalf("%d bytes", len(b))
	}
	l, at, e := frame.Split(b)
	if len(l) != 1 || len(l[0].Data) != size || at != 0 || e != api.OK {
		t.Errorf("Split at the limit: %d sections, %d, %d", len(l), at, e)
	}
	for _, first := range []byte{0, 1} {
		b[0] = first
		if l, at, e := frame.Split(append(b, 0)); len(l) != 0 || at != 0 || e != api.ErrLong {
			t.Errorf("Split above the limit: %d sections, %d, %d", len(l), at, e)
		}
	}
}

func TestP23SplitTakesManySections(t *testing.T) {
	n := (api.MaxModule - len(head)) / 3
	l, at, e := frame.Split([]byte(head + strings.Repeat("\x00\x01\x00", n)))
	if len(l) != n || at != 0 || e != api.OK {
		t.Errorf("Split: %d sections, %d, %d", len(l), at, e)
	}
}

func TestP24JoinWrites(t *testing.T) {
	for _, c := range []struct {
		l []api.Section
		b string
	}{
		{nil, ""},
		{[]api.Section{}, ""},
		{[]api.Section{{ID: 1, Data: []byte{0}, At: 10}}, "\x01\x01\x00"},
		{[]api.Section{{ID: 1, Data: []byte{0}, At: -7}}, "\x01\x01\x00"},
		{[]api.Section{{ID: 0, Name: "a", Data: []byte{7}}}, "\x00\x03\x01a\x07"},
		{[]api.Section{{}}, "\x00\x01\x00"},
		{[]api.Section{{ID: 0, Name: "a"}, {ID: 12}, {ID: 0, Name: "a"}, {ID: 10}}, "\x00\x02\x01a\x0c\x00\x00\x02\x01a\x0a\x00"},
		{[]api.Section{{ID: 11, Data: bytes.Repeat([]byte{1}, 128)}}, "\x0b\x80\x01" + strings.Repeat("\x01", 128)},
		{[]api.Section{{ID: 0, Name: strings.Repeat("é", 63), Data: []byte{1}}}, "\x00\x80\x01\x7e" + strings.Repeat("é", 63) + "\x01"},
	} {
		if b, e := frame.Join(c.l); string(b) != head+c.b || e != api.OK {
			t.Errorf("Join(%v): %x, %d, not %x", c.l, b, e, c.b)
		}
	}
}

func TestP24JoinRefuses(t *testing.T) {
	long := strings.Repeat("a", api.MaxNames+1)
	great := make([]byte, api.MaxModule)
	for _, c := range []struct {
		l []api.Section
		e api.Errno
	}{
		{[]api.Section{{ID: -1}}, api.ErrForm},
		{[]api.Section{{ID: 14}}, api.ErrForm},
		{[]api.Section{{ID: 256}}, api.ErrForm},
		{[]api.Section{{ID: 257}}, api.ErrForm},
		{[]api.Section{{ID: -1 << 63}}, api.ErrForm},
		{[]api.Section{{ID: 1, Name: "a"}}, api.ErrForm},
		{[]api.Section{{ID: 14, Name: "\xff"}}, api.ErrForm},
		{[]api.Section{{ID: 1}, {ID: 1}}, api.ErrOrder},
		{[]api.Section{{ID: 10}, {ID: 12}}, api.ErrOrder},
		{[]api.Section{{ID: 6}, {ID: 0}, {ID: 13}}, api.ErrOrder},
		{[]api.Section{{ID: 0, Name: long}}, api.ErrLong},
		{[]api.Section{{ID: 0, Name: "\xff" + long}}, api.ErrLong},
		{[]api.Section{{ID: 0, Name: "\xff"}}, api.ErrName},
		{[]api.Section{{ID: 0, Name: "\xe2\x82", Data: []byte{0xac}}}, api.ErrName},
		{[]api.Section{{ID: 11, Data: great}}, api.ErrLong},
		// Of one section: form ahead of order.
		{[]api.Section{{ID: 2}, {ID: 1, Name: "a"}}, api.ErrForm},
		// Of several: the first one that can't be, ahead of the limit of all.
		{[]api.Section{{ID: 0, Name: "\xff"}, {ID: 14}}, api.ErrName},
		{[]api.Section{{ID: 0, Name: long}, {ID: 0, Name: "\xff"}}, api.ErrLong},
		{[]api.Section{{ID: 0, Name: "\xff"}, {ID: 0, Name: long}}, api.ErrName},
		{[]api.Section{{ID: 1}, {ID: 1}, {ID: 1, Name: "a"}}, api.ErrOrder},
		{[]api.Section{{ID: 1, Name: "a"}, {ID: 1}, {ID: 1}}, api.ErrForm},
		{[]api.Section{{ID: 0, Name: "\xff"}, {ID: 1}, {ID: 1}}, api.ErrName},
		{[]api.Section{{ID: 1, Data: great}, {ID: 1}}, api.ErrOrder},
		{[]api.Section{{ID: 1, Data: great}, {ID: 14}}, api.ErrForm},
		{[]api.Section{{ID: 1, Data: great}, {ID: 0, Name: "\xff"}}, api.ErrName},
	} {
		if b, e := frame.Join(c.l); len(b) != 0 || e != c.e {
			t.Errorf("Join(%.100v): %d bytes, %d, not %d", c.l, len(b), e, c.e)
		}
	}
}

func TestP24JoinAsksForRisingRanks(t *testing.T) {
	ids := inOrder()
	for i, first := range ids {
		for j, second := range ids {
			l := []api.Section{{ID: int(first)}, {ID: 0, Name: "c"}, {ID: int(second)}}
			want := api.OK
			if i >= j {
				want = api.ErrOrder
			}
			if _, e := frame.Join(l); e != want {
				t.Errorf("Join of %d, %d: %d, not %d", first, second, e, want)
			}
		}
	}
}

func TestP24JoinAtTheLimit(t *testing.T) {
	data := make([]byte, api.MaxModule)
	for _, c := range []struct {
		ahead []api.Section
		last  api.Section
		room  int // bytes of the last one's data that the module has room for
	}{
		{nil, api.Section{ID: 11}, api.MaxModule - 8 - 4},
		{nil, api.Section{ID: 0, Name: "a"}, api.MaxModule - 8 - 6},
		{[]api.Section{{ID: 1, Data: data[:1<<19]}}, api.Section{ID: 11}, api.MaxModule - 8 - 4 - 1<<19 - 4},
	} {
		for more := range 3 {
			s := c.last
			s.Data = data[:c.room+more]
			b, e := frame.Join(append(c.ahead, s))
			if more == 0 && (len(b) != api.MaxModule || e != api.OK) {
				t.Errorf("Join at the limit: %d bytes, %d", len(b), e)
			}
			if more > 0 && (len(b) != 0 || e != api.ErrLong) {
				t.Errorf("Join %d above the limit: %d bytes, %d", more, len(b), e)
			}
		}
	}
	many := make([]api.Section, (api.MaxModule-8)/3+1)
	if b, e := frame.Join(many); len(b) != 0 || e != api.ErrLong {
		t.Errorf("Join of too many: %d bytes, %d", len(b), e)
	}
	if b, e := frame.Join(many[1:]); len(b) != 8+3*(len(many)-1) || e != api.OK {
		t.Errorf("Join of many: %d bytes, %d", len(b), e)
	}
}

func TestP24Find(t *testing.T) {
	l := []api.Section{{ID: 10, Data: []byte{1}, At: 3}, {ID: 0, Name: "a"}, {ID: 10, Data: []byte{2}}, {ID: 0, Name: "b"}, {ID: -5, Name: "x", At: 4}}
	for id, at := range map[int]int{10: 0, 0: 1, -5: 4} {
		if s, ok := frame.Find(l, id); !ok || !same(s, l[at]) {
			t.Errorf("Find(%d): %v, %v", id, s, ok)
		}
	}
	for _, id := range []int{1, 14, -1} {
		if s, ok := frame.Find(l, id); ok || !same(s, api.Section{}) {
			t.Errorf("Find(%d): %v, %v", id, s, ok)
		}
	}
	if s, ok := frame.Find(nil, 0); ok || !same(s, api.Section{}) {
		t.Errorf("Find of none: %v, %v", s, ok)
	}
}

func TestP24Customs(t *testing.T) {
	l := []api.Section{{ID: 0, Name: "a", Data: []byte{1}, At: 5}, {ID: 0, Name: "b"}, {ID: 1}, {ID: 2, Name: "a"}, {ID: 0, Name: "a", Data: []byte{2}}, {ID: 0, At: 9}}
	for _, c := range []struct {
		name string
		want []api.Section
	}{{"a", []api.Section{l[0], l[4]}}, {"b", l[1:2]}, {"", l[5:]}, {"c", nil}, {"A", nil}} {
		if got := frame.Customs(l, c.name); !sameAll(got, c.want) {
			t.Errorf("Customs(%q): %v", c.name, got)
		}
	}
	if got := frame.Customs(nil, ""); len(got) != 0 {
		t.Errorf("Customs of none: %v", got)
	}
}

// someSections are sections that may stand together, by numbers that are the same in each run.
func someSections(r *rand.Rand) []api.Section {
	var l []api.Section
	add := func(s api.Section) {
		s.Data = make([]byte, r.Intn(200))
		r.Read(s.Data)
		l = append(l, s)
	}
	for _, id := range inOrder() {
		for r.Intn(3) == 0 {
			add(api.Section{Name: strings.Repeat("é", r.Intn(100))})
		}
		if r.Intn(2) == 0 {
			add(api.Section{ID: int(id)})
		}
	}
	return l
}

func TestP25SplitOfJoin(t *testing.T) {
	r := rand.New(rand.NewSource(1))
	for range 500 {
		l := someSections(r)
		b, e := frame.Join(l)
		if e != api.OK {
			t.Fatalf("Join: %d", e)
		}
		got, at, e := frame.Split(b)
		if at != 0 || e != api.OK || len(got) != len(l) {
			t.Fatalf("Split: %d sections, %d, %d", len(got), at, e)
		}
		for i := range l {
			at := got[i].At
			if !bytes.Equal(b[at:at+len(l[i].Data)], l[i].Data) {
				t.Errorf("the contents are not at %d", at)
			}
			got[i].At = 0
		}
		if !sameAll(got, l) {
			t.Errorf("Split of Join: %v, not %v", got, l)
		}
	}
}

func TestP25JoinOfSplit(t *testing.T) {
	b, _ := whole()
	l, _, _ := frame.Split([]byte(b))
	if again, e := frame.Join(l); string(again) != b || e != api.OK {
		t.Errorf("Join of Split: %x, %d, not %x", again, e, b)
	}
	wide := head + "\x00\x85\x80\x80\x80\x00\x81\x00abc" + "\x01\x80\x00" + "\x02\x81\x80\x00\x09"
	narrow := head + "\x00\x04\x01abc" + "\x01\x00" + "\x02\x01\x09"
	l, at, e := frame.Split([]byte(wide))
	if len(l) != 3 || at != 0 || e != api.OK {
		t.Fatalf("Split: %v, %d, %d", l, at, e)
	}
	if again, e := frame.Join(l); string(again) != narrow || e != api.OK {
		t.Errorf("Join of Split: %x, %d, not %x", again, e, narrow)
	}
}

func wantName(c *leb.Cursor) string {
	start := c.At()
	n := c.U32()
	if n > api.MaxNames {
		c.Fail(start, api.ErrLong)
	}
	textAt := c.At()
	text := c.Bytes(n)
	if bad, ok := wantUtf8(text); !ok {
		c.Fail(textAt+bad, api.ErrName)
	}
	return string(text)
}

// wantSplit goes over a module's bytes with a cursor of layer 1, and tells the same in another way.
func wantSplit(b []byte) (l []api.Section, at int, e api.Errno) {
	c := leb.New(b)
	for i := range len(head) {
		c.Byte()
		if i < len(b) && b[i] != head[i] {
			c.Fail(i, api.ErrForm)
		}
	}
	ranks := map[byte]int{0: 99}
	for i, id := range inOrder() {
		ranks[id] = i + 1
	}
	last := 0
	for c.Left() > 0 {
		start := c.At()
		id := c.Byte()
		rank := ranks[id]
		if rank == 0 {
			c.Fail(start, api.ErrForm)
		}
		part := c.Within(c.U32())
		if rank <= last {
			c.Fail(start, api.ErrOrder)
		}
		s := api.Section{ID: int(id)}
		if id == 0 {
			s.Name = wantName(part)
			c.Fail(part.Err())
		} else {
			last = rank
		}
		s.At = part.At()
		s.Data = part.Bytes(uint32(part.Left()))
		l = append(l, s)
	}
	if at, e = c.Err(); e != api.OK {
		return nil, at, e
	}
	return l, 0, api.OK
}

func TestP23SplitOfSpoiltModules(t *testing.T) {
	r := rand.New(rand.NewSource(2))
	faults := map[api.Errno]int{}
	for range 20000 {
		l := someSections(r)
		for i := range l {
			l[i].Data = l[i].Data[:min(len(l[i].Data), r.Intn(9))]
			l[i].Name = l[i].Name[:min(len(l[i].Name), 2*r.Intn(5))]
		}
		b, _ := frame.Join(l)
		for range r.Intn(4) {
			spoil(r, b)
		}
		want, wantAt, wantE := wantSplit(b)
		got, at, e := frame.Split(b)
		if !sameAll(got, want) || at != wantAt || e != wantE {
			t.Fatalf("Split(%x): %v, %d, %d, not %v, %d, %d", b, got, at, e, want, wantAt, wantE)
		}
		faults[e]++
	}
	for _, e := range []api.Errno{api.OK, api.ErrShort, api.ErrForm, api.ErrOrder, api.ErrName} {
		if faults[e] < 100 {
			t.Errorf("only %d modules with error %d", faults[e], e)
		}
	}
}

// spoil changes a byte, often to one that a section could begin with.
func spoil(r *rand.Rand, b []byte) {
	limit := 256
	if r.Intn(2) == 0 {
		limit = 14
	}
	b[r.Intn(len(b))] = byte(r.Intn(limit))
}

func TestP4NothingIsShared(t *testing.T) {
	b, _ := whole()
	in := []byte(b)
	l, _, _ := frame.Split(in)
	clear(in)
	want, _, _ := frame.Split([]byte(b))
	if !sameAll(l, want) {
		t.Error("Split keeps the bytes that it was handed")
	}
	for i := range l {
		all := l[i].Data[:cap(l[i].Data)]
		clear(all)
		copy(l[i].Data, want[i].Data)
	}
	if !sameAll(l, want) {
		t.Error("sections of one answer share memory")
	}
	found, _ := frame.Find(l, 11)
	clear(found.Data)
	customs := frame.Customs(l, "grün")
	for _, s := range customs {
		clear(s.Data)
	}
	joined, _ := frame.Join(l)
	clear(joined)
	if !sameAll(l, want) {
		t.Error("an answer shares memory with the sections that were handed in")
	}
}

func TestP4NothingIsChanged(t *testing.T) {
	b, l := whole()
	in := append([]byte(b), 0xff, 0xff, 0xff)
	kept := bytes.Clone(in)
	frame.Split(in[:len(b)])
	frame.Split(in)
	frame.Utf8(in)
	frame.Name(in, len(head)+2)
	if !bytes.Equal(in, kept) {
		t.Error("the bytes were changed")
	}
	frame.Join(l)
	frame.Find(l, 0)
	frame.Customs(l, "grün")
	if _, want := whole(); !sameAll(l, want) {
		t.Error("the sections were changed")
	}
}
