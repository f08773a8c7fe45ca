package table_test

import (
	"bytes"
	"fmt"
	"iter"
	"maps"
	"math"
	"math/rand"
	"slices"
	"strings"
	"testing"

	"horarium/table"
)

// plain is what a Table is to be: of each key what was put last, and not deleted.
type plain map[string]int

// rising are the keys, byte by byte, a beginning ahead.
func (m plain) rising() []string {
	return slices.SortedFunc(maps.Keys(m), order)
}

func order(a, b string) int { return bytes.Compare([]byte(a), []byte(b)) }

// entry is a key and its value.
type entry struct {
	key   string
	value int
}

func (e entry) String() string { return fmt.Sprintf("%.40q: %d", e.key, e.value) }

// from are the entries whose keys are not ahead of key, rising.
func (m plain) from(key string) []entry {
	var out []entry
	for _, k := range m.rising() {
		if order(k, key) >= 0 {
			out = append(out, entry{k, m[k]})
		}
	}
	return out
}

// keys are of all kinds: beginnings of one another, bytes above 127, the byte 0, and the empty one.
func keys() []string {
	out := []string{"", "\x00", "\x00\x00", "\x00a", "a", "a\x00", "a\x00b", "aa", "ab", "abc", "b", "A", "Z", "z", "\x7f", "\x80", "\xc3", "\xc3\xa9", "\xff", "\xff\x00", "\xff\xff", "é", "日本", "1", "10", "2", " ", "\n", strings.Repeat("a", 300), strings.Repeat("a", 300) + "b", strings.Repeat("\xff", 300)}
	for i := range 256 {
		out = append(out, string([]byte{byte(i)}), string([]byte{'k', byte(i)}))
	}
	slices.Sort(out)
	return slices.Compact(out)
}

// shuffled is keys in another order, the same for the same seed.
func shuffled(l []string, seed int64) []string {
	out := slices.Clone(l)
	rand.New(rand.NewSource(seed)).Shuffle(len(out), func(i, j int) { out[i], out[j] = out[j], out[i] })
	return out
}

// of is a Table of the keys, put in that order, with the values 1, 2 and so on, and the map that it is to be.
func of(l ...string) (*table.Table[int], plain) {
	tab, m := table.New[int](), plain{}
	for i, key := range l {
		tab.Put(key, i+1)
		m[key] = i + 1
	}
	return tab, m
}

// gone are the entries that are gone over, up to most of them; below 0: all.
func gone(s iter.Seq2[string, int], most int) []entry {
	var out []entry
	if most == 0 {
		for range s {
			break
		}
		return out
	}
	for key, value := range s {
		out = append(out, entry{key, value})
		if len(out) == most {
			break
		}
	}
	return out
}

func wantEntries(t *testing.T, call string, got, want []entry) {
	t.Helper()
	if !slices.Equal(got, want) {
		t.Errorf("%s tells %v, want %v", call, got, want)
	}
}

func wantGet(t *testing.T, tab *table.Table[int], key string, want int, there bool) {
	t.Helper()
	if got, ok := tab.Get(key); got != want || ok != there {
		t.Errorf("Get(%.40q) = %d, %v, want %d, %v", key, got, ok, want, there)
	}
}

func wantKey(t *testing.T, tab *table.Table[int], i int, want string, there bool) {
	t.Helper()
	if got, ok := tab.Key(i); got != want || ok != there {
		t.Errorf("Key(%d) = %.40q, %v, want %.40q, %v", i, got, ok, want, there)
	}
}

func wantLen(t *testing.T, tab *table.Table[int], want int) {
	t.Helper()
	if got := tab.Len(); got != want {
		t.Errorf("Len() = %d, want %d", got, want)
	}
}

func wantDelete(t *testing.T, tab *table.Table[int], key string, had bool) {
	t.Helper()
	if got := tab.Delete(key); got != had {
		t.Errorf("Delete(%.40q) = %v, want %v", key, got, had)
	}
}

// wantTable: each call that only asks answers what the map says, at the places of the keys and around them.
func wantTable(t *testing.T, tab *table.Table[int], m plain, probes ...string) {
	t.Helper()
	rising := m.rising()
	wantLen(t, tab, len(m))
	for i, key := range rising {
		wantKey(t, tab, i, key, true)
	}
	for _, i := range []int{math.MinInt, math.MinInt + 1, math.MinInt32, -len(m) - 1, -len(m), -2, -1, len(m), len(m) + 1, 2*len(m) + 1, math.MaxInt32, 1 << 32, math.MaxInt - 1, math.MaxInt} {
		if i < 0 || i >= len(m) {
			wantKey(t, tab, i, "", false)
		}
	}
	wantEntries(t, "From of the empty key", gone(tab.From(""), -1), m.from(""))
	for _, key := range append(rising, probes...) {
		value, there := m[key]
		wantGet(t, tab, key, value, there)
		wantEntries(t, "From", gone(tab.From(key), -1), m.from(key))
	}
}

// P6.1: Put, Get, Delete, Len, Key

func TestExample(t *testing.T) {
	tab := table.New[string]()
	tab.Put("b", "one")
	tab.Put("a", "two")
	if key, ok := tab.Key(0); key != "a" || !ok {
		t.Errorf("Key(0) = %q, %v", key, ok)
	}
	if key, ok := tab.Key(1); key != "b" || !ok {
		t.Errorf("Key(1) = %q, %v", key, ok)
	}
}

func TestNoKeys(t *testing.T) {
	wantTable(t, table.New[int](), nil, keys()...)
	for _, key := range keys() {
		tab := table.New[int]()
		wantDelete(t, tab, key, false)
		wantTable(t, tab, nil, "", key)
	}
}

// TestNewIsNew: each call makes a map of its own.
func TestNewIsNew(t *testing.T) {
	one, two := table.New[int](), table.New[int]()
	one.Put("a", 1)
	wantTable(t, two, nil, "a")
	two.Put("b", 2)
	wantTable(t, one, plain{"a": 1}, "b")
}

func TestOneKey(t *testing.T) {
	for _, key := range keys() {
		tab := table.New[int]()
		tab.Put(key, 7)
		wantTable(t, tab, plain{key: 7}, "", "\x00", "a", "ab", "\xff", key+"\x00", key+"a")
		wantDelete(t, tab, key+"\x00", false)
		wantTable(t, tab, plain{key: 7})
		wantDelete(t, tab, key, true)
		wantTable(t, tab, nil, key)
		wantDelete(t, tab, key, false)
	}
}

// TestManyKeys: all kinds of keys, put in several orders, told as they rise, and deleted in another order.
func TestManyKeys(t *testing.T) {
	falling := keys()
	slices.Reverse(falling)
	for i, l := range [][]string{keys(), falling, shuffled(keys(), 1), shuffled(keys(), 2)} {
		tab, m := of(l...)
		wantTable(t, tab, m, "\x00\x01", "\xfe\xff", "kk", "zz")
		for _, key := range shuffled(keys(), int64(10+i))[20:] {
			wantDelete(t, tab, key, true)
			delete(m, key)
			wantLen(t, tab, len(m))
			wantGet(t, tab, key, 0, false)
		}
		wantTable(t, tab, m, keys()...)
	}
}

func TestBeginningsStandAhead(t *testing.T) {
	tab, m := of("abc", "ab\xff", "b", "ab", "", "a\x00", "a", "\xff", "\x80", "\x7f", "ab\x00")
	for i, key := range []string{"", "a", "a\x00", "ab", "ab\x00", "abc", "ab\xff", "b", "\x7f", "\x80", "\xff"} {
		wantKey(t, tab, i, key, true)
	}
	wantTable(t, tab, m, "abb", "abcd", "c", "\xff\xff")
}

func TestEachStepOfOneKey(t *testing.T) {
	tab := table.New[int]()
	tab.Put("m", 1)
	tab.Put("k", 2)
	wantLen(t, tab, 2)
	tab.Put("m", 3)
	wantTable(t, tab, plain{"k": 2, "m": 3})
	wantDelete(t, tab, "l", false)
	wantTable(t, tab, plain{"k": 2, "m": 3}, "l")
	wantDelete(t, tab, "m", true)
	wantTable(t, tab, plain{"k": 2}, "m")
	wantDelete(t, tab, "m", false)
	wantTable(t, tab, plain{"k": 2}, "m")
	tab.Put("m", 4)
	wantTable(t, tab, plain{"k": 2, "m": 4})
	tab.Put("m", 4)
	wantTable(t, tab, plain{"k": 2, "m": 4})
	wantDelete(t, tab, "k", true)
	wantDelete(t, tab, "m", true)
	wantTable(t, tab, nil, "k", "m")
	tab.Put("k", 5)
	wantTable(t, tab, plain{"k": 5}, "m")
}

// TestZeroValueIsOne: a key with the zero value has a value.
func TestZeroValueIsOne(t *testing.T) {
	tab, m := of("a", "b", "c")
	tab.Put("b", 0)
	tab.Put("d", 0)
	m["b"], m["d"] = 0, 0
	wantTable(t, tab, m, "e")
	wantDelete(t, tab, "b", true)
	wantDelete(t, tab, "b", false)
	delete(m, "b")
	wantTable(t, tab, m, "b")
}

// TestPutTwice: the key has the last value, whatever stands beside it.
func TestPutTwice(t *testing.T) {
	tab, m := of(shuffled(keys(), 3)...)
	for i, key := range shuffled(keys(), 4) {
		tab.Put(key, -i)
		m[key] = -i
		wantGet(t, tab, key, -i, true)
		wantLen(t, tab, len(m))
	}
	wantTable(t, tab, m)
}

// P6.1: Copy

// TestCopy: a copy has the same, and then neither one knows what is done with the other one.
func TestCopy(t *testing.T) {
	for _, l := range [][]string{nil, {"b"}, {"d", "b", "a", "c"}, keys()} {
		tab, m := of(l...)
		copied := tab.Copy()
		if copied == tab || copied == nil {
			t.Fatal("Copy is no other Table")
		}
		wantTable(t, copied, m, "b", "x")
		change(tab)
		wantTable(t, copied, m, "b", "b\x00", "x")
		wantTable(t, tab, changed(m), "b")
		other := copied.Copy()
		change(copied)
		wantTable(t, other, m, "b", "b\x00")
		wantTable(t, copied, changed(m), "b")
		for _, key := range l {
			wantDelete(t, copied, key, key != "b")
		}
		wantTable(t, other, m, "b")
		wantTable(t, tab, changed(m), "b")
	}
}

// change puts a new key, another value of one that may be there, and deletes one that may be there.
func change(tab *table.Table[int]) {
	tab.Put("b\x00", -1)
	tab.Put("a", -2)
	tab.Delete("b")
}

// changed is what change makes of m.
func changed(m plain) plain {
	out := maps.Clone(m)
	out["b\x00"], out["a"] = -1, -2
	delete(out, "b")
	return out
}

// P6.2: From

func TestFrom(t *testing.T) {
	tab, _ := of("b", "d", "f")
	for _, c := range []struct {
		from string
		want []entry
	}{
		{"", []entry{{"b", 1}, {"d", 2}, {"f", 3}}},
		{"a", []entry{{"b", 1}, {"d", 2}, {"f", 3}}},
		{"b", []entry{{"b", 1}, {"d", 2}, {"f", 3}}},
		{"b\x00", []entry{{"d", 2}, {"f", 3}}},
		{"c", []entry{{"d", 2}, {"f", 3}}},
		{"d", []entry{{"d", 2}, {"f", 3}}},
		{"e", []entry{{"f", 3}}},
		{"f", []entry{{"f", 3}}},
		{"f\x00", nil},
		{"g", nil},
		{"\xff\xff", nil},
	} {
		wantEntries(t, "From("+c.from+")", gone(tab.From(c.from), -1), c.want)
	}
}

// TestFromIsLeft: at each place; nothing more is told to who has left, and it may be gone over again.
func TestFromIsLeft(t *testing.T) {
	for _, l := range [][]string{nil, {""}, {"b"}, {"d", "b", "f"}, keys()[:40]} {
		tab, m := of(l...)
		for _, from := range []string{"", "a", "b", "c", "\x10", "g"} {
			want, s := m.from(from), tab.From(from)
			for most := range len(want) + 1 {
				wantEntries(t, "From, left", gone(s, most), want[:most])
				told := 0
				s(func(string, int) bool {
					told++
					return told < most
				})
				if told != min(max(most, 1), len(want)) {
					t.Errorf("From, left at %d keys, told %d", most, told)
				}
			}
			for range 3 {
				wantEntries(t, "From, once more", gone(s, -1), want)
			}
		}
	}
}

// TestFromWithinFrom: one goes over the keys while another one does.
func TestFromWithinFrom(t *testing.T) {
	tab, m := of("c", "a", "e", "b", "d")
	s := tab.From("b")
	var outer []entry
	for key, value := range s {
		outer = append(outer, entry{key, value})
		wantEntries(t, "the inner From", gone(s, -1), m.from("b"))
		wantEntries(t, "the inner From, left", gone(s, 2), m.from("b")[:2])
		wantEntries(t, "the inner From of the key", gone(tab.From(key), -1), m.from(key))
	}
	wantEntries(t, "the outer From", outer, m.from("b"))
}

// TestFromTellsWhatWasThere: what is put and deleted ahead of the going over does not show.
func TestFromTellsWhatWasThere(t *testing.T) {
	for _, l := range [][]string{nil, {"b"}, {"a", "b", "c", "d"}, keys()} {
		tab, m := of(l...)
		s := tab.From("a")
		change(tab)
		wantEntries(t, "From, behind changes", gone(s, -1), m.from("a"))
		wantEntries(t, "From, anew", gone(tab.From("a"), -1), changed(m).from("a"))
		for key := range changed(m) {
			wantDelete(t, tab, key, true)
		}
		wantEntries(t, "From of what was emptied", gone(s, -1), m.from("a"))
		wantEntries(t, "From, anew", gone(tab.From(""), -1), nil)
	}
}

// TestFromWhileChanged: what is put and deleted while it is gone over does not show, at whichever place it is done.
func TestFromWhileChanged(t *testing.T) {
	l := shuffled(keys(), 5)[:30]
	for at := range len(l) {
		tab, m := of(l...)
		want, s := m.from(""), tab.From("")
		var got []entry
		for key, value := range s {
			got = append(got, entry{key, value})
			if len(got) != at+1 {
				continue
			}
			for _, k := range m.rising() {
				wantDelete(t, tab, k, true)
			}
			tab.Put(key+"\x00", -1)
			tab.Put("zzz", -2)
		}
		wantEntries(t, "From, changed meanwhile", got, want)
		wantEntries(t, "From, once more", gone(s, -1), want)
		wantEntries(t, "From, anew", gone(tab.From(""), -1), plain{want[at].key + "\x00": -1, "zzz": -2}.from(""))
	}
}

// TestEachStepWhileGoneOver: the key that is told is deleted, and a new one put behind it.
func TestEachStepWhileGoneOver(t *testing.T) {
	tab, m := of("a", "b", "c", "d", "e")
	var got []entry
	after := plain{}
	for key, value := range tab.From("") {
		got = append(got, entry{key, value})
		wantDelete(t, tab, key, true)
		tab.Put(key+"+", 10*value)
		after[key+"+"] = 10 * value
	}
	wantEntries(t, "From", got, m.from(""))
	wantTable(t, tab, after, "a", "e")
}

// P6.3: what follows

// TestEachFewSteps: all rows of up to five steps with three keys, against the map.
func TestEachFewSteps(t *testing.T) {
	steps := 0
	var walk func(tab *table.Table[int], m plain, left int)
	walk = func(tab *table.Table[int], m plain, left int) {
		steps++
		wantTable(t, tab, m, "", "a", "a\x00", "ab", "b")
		if left == 0 {
			return
		}
		for _, key := range []string{"", "a", "ab"} {
			for value := range 3 {
				next, n := tab.Copy(), maps.Clone(m)
				if value < 2 {
					next.Put(key, value)
					n[key] = value
				} else {
					_, had := n[key]
					wantDelete(t, next, key, had)
					delete(n, key)
				}
				walk(next, n, left-1)
			}
		}
	}
	walk(table.New[int](), plain{}, 5)
	if steps != 1+9+81+729+6561+59049 {
		t.Errorf("%d rows of steps", steps)
	}
}

// TestEachOrder: seven keys, put in each order, and deleted in another one.
func TestEachOrder(t *testing.T) {
	all := []string{"", "a", "a\x00", "ab", "b", "\x80", "\xff"}
	var put func(l, left []string)
	put = func(l, left []string) {
		if len(left) == 0 {
			tab, m := of(l...)
			wantTable(t, tab, m, "aa")
			for i := range l {
				key := l[(3*i+1)%len(l)]
				wantDelete(t, tab, key, true)
				delete(m, key)
				wantEntries(t, "From", gone(tab.From(""), -1), m.from(""))
				wantLen(t, tab, len(m))
			}
		}
		for i, key := range left {
			put(append(slices.Clone(l), key), slices.Delete(slices.Clone(left), i, i+1))
		}
	}
	put(nil, all)
}

// TestManySteps: many steps by chance, the same in each run, with few keys and with many.
func TestManySteps(t *testing.T) {
	for seed, most := range []int{3, 20, 100, len(keys())} {
		chance := rand.New(rand.NewSource(int64(seed)))
		l := shuffled(keys(), int64(seed))[:most]
		tab, m := table.New[int](), plain{}
		for step := range 4000 {
			key := l[chance.Intn(len(l))]
			// Now more is put, now more is deleted.
			if chance.Intn(10) < 3+4*(step/700%2) {
				tab.Put(key, step)
				m[key] = step
			} else {
				_, had := m[key]
				wantDelete(t, tab, key, had)
				delete(m, key)
			}
			wantLen(t, tab, len(m))
			value, there := m[key]
			wantGet(t, tab, key, value, there)
			if step%200 == 0 {
				wantTable(t, tab, m, l[:3]...)
			}
		}
		wantTable(t, tab, m, l...)
	}
}

// TestWayThereDoesNotShow: what was put last, and not deleted, is all that shows (R6).
func TestWayThereDoesNotShow(t *testing.T) {
	l := keys()
	straight, m := of(l...)
	crooked := table.New[int]()
	for _, key := range shuffled(l, 6) {
		crooked.Put(key+"\x01\x01", 5)
		crooked.Put(key, -1)
	}
	for _, key := range shuffled(l, 7) {
		wantDelete(t, crooked, key+"\x01\x01", true)
		wantDelete(t, crooked, key, true)
		crooked.Put(key, m[key])
	}
	wantTable(t, straight, m)
	wantTable(t, crooked, m)
}

// TestVeryManyKeys: put rising, falling and by chance; each call stays quick.
func TestVeryManyKeys(t *testing.T) {
	const many = 1 << 16
	key := func(i int) string { return string([]byte{byte(i >> 16), byte(i >> 8), byte(i)}) }
	for _, place := range []func(int) int{
		func(i int) int { return i },
		func(i int) int { return many - 1 - i },
		func(i int) int { return i * 40503 % many },
	} {
		tab := table.New[int]()
		for i := range many {
			tab.Put(key(place(i)), place(i))
		}
		wantLen(t, tab, many)
		for i := range many {
			wantKey(t, tab, i, key(i), true)
			wantGet(t, tab, key(i), i, true)
			wantEntries(t, "From, left", gone(tab.From(key(i)), 1), []entry{{key(i), i}})
		}
		for i := range many {
			if place(i)%16 != 0 {
				wantDelete(t, tab, key(place(i)), true)
			}
		}
		wantLen(t, tab, many/16)
		at := 0
		for k, value := range tab.From("") {
			if k != key(at) || value != at {
				t.Fatalf("From tells %q, %d, want %q, %d", k, value, key(at), at)
			}
			at += 16
		}
		wantKey(t, tab, many/16-1, key(many-16), true)
		wantKey(t, tab, many/16, "", false)
	}
}

// The rules of the whole

// TestNil: a nil Table answers zero values in each call, and Put does nothing (R1, R3).
func TestNil(t *testing.T) {
	var tab *table.Table[int]
	for _, key := range keys() {
		tab.Put(key, 1)
		wantDelete(t, tab, key, false)
	}
	wantTable(t, tab, nil, keys()...)
	if tab.Copy() != nil {
		t.Error("Copy of nil is a Table")
	}
	if tab.From("") == nil {
		t.Error("From of nil is nil")
	}
}

// TestNotMadeByNew: such a Table has no keys, and may be used.
func TestNotMadeByNew(t *testing.T) {
	var zero table.Table[int]
	wantUsable(t, &zero)
	wantUsable(t, new(table.Table[int]))
	wantUsable(t, (&table.Table[int]{}).Copy())
	var rows [3]table.Table[int]
	rows[1].Put("a", 1)
	wantUsable(t, &rows[0])
	wantUsable(t, &rows[2])
	wantTable(t, &rows[1], plain{"a": 1})
}

func wantUsable(t *testing.T, tab *table.Table[int]) {
	t.Helper()
	wantTable(t, tab, nil, "", "a")
	wantDelete(t, tab, "a", false)
	copied, ahead := tab.Copy(), tab.From("")
	tab.Put("b", 2)
	tab.Put("a", 0)
	wantTable(t, tab, plain{"a": 0, "b": 2}, "", "c")
	wantTable(t, tab.Copy(), plain{"a": 0, "b": 2})
	wantTable(t, copied, nil, "a", "b")
	wantEntries(t, "From, called ahead", gone(ahead, -1), nil)
	wantDelete(t, tab, "b", true)
	wantTable(t, tab, plain{"a": 0}, "b")
}

// TestFromIsNeverNil: where there is nothing, it ends at once (R3).
func TestFromIsNeverNil(t *testing.T) {
	one, _ := of("k")
	for _, tab := range []*table.Table[int]{nil, {}, table.New[int](), one} {
		for _, from := range []string{"", "k", "l", "\xff"} {
			s := tab.From(from)
			if s == nil {
				t.Fatalf("From(%q) is nil", from)
			}
			if from > "k" {
				for key := range s {
					t.Errorf("From(%q) tells %q", from, key)
				}
			}
		}
	}
}

// TestAskingChangesNothing: the calls that only ask, or are refused, may be done again, to the same answers (R3, R6).
func TestAskingChangesNothing(t *testing.T) {
	tab, m := of(keys()...)
	for range 3 {
		wantTable(t, tab, m, "no such key", "\x00\x00\x00")
		wantDelete(t, tab, "no such key", false)
		gone(tab.From("b"), 3)
		tab.Copy().Delete("b")
	}
}

// TestKeysFromBytes: bytes of which a key was made may be changed behind the call (R4).
func TestKeysFromBytes(t *testing.T) {
	tab, row := table.New[int](), []byte("abc")
	tab.Put(string(row), 1)
	copy(row, "xyz")
	wantTable(t, tab, plain{"abc": 1}, "xyz")
}

// Values of more than one type

// wantValues: values of any type come back, from a Table and from its copy, and go.
func wantValues[V any](t *testing.T, same func(a, b V) bool, values ...V) {
	t.Helper()
	var zero V
	tab := table.New[V]()
	for i, v := range values {
		tab.Put(string(rune('a'+i)), v)
	}
	for _, each := range []*table.Table[V]{tab, tab.Copy()} {
		at := 0
		for key, v := range each.From("") {
			got, ok := each.Get(key)
			if key != string(rune('a'+at)) || !same(v, values[at]) || !same(got, v) || !ok {
				t.Errorf("%T: From tells %v of %q, Get %v, %v", zero, v, key, got, ok)
			}
			at++
		}
		if at != len(values) || each.Len() != at {
			t.Errorf("%T: From tells %d keys, Len %d", zero, at, each.Len())
		}
	}
	if got, ok := tab.Get("?"); !same(got, zero) || ok {
		t.Errorf("%T: Get of no key is %v, %v", zero, got, ok)
	}
	tab.Put("a", zero)
	if got, ok := tab.Get("a"); !same(got, zero) || !ok {
		t.Errorf("%T: Get of the zero value is %v, %v", zero, got, ok)
	}
	if had := tab.Delete("a"); !had || tab.Len() != len(values)-1 {
		t.Errorf("%T: Delete is %v", zero, had)
	}
	if got, ok := tab.Get("a"); !same(got, zero) || ok {
		t.Errorf("%T: Get of a key that was deleted is %v, %v", zero, got, ok)
	}
	var none *table.Table[V]
	none.Put("a", values[0])
	if got, ok := none.Get("a"); !same(got, zero) || ok || none.Copy() != nil || none.Len() != 0 {
		t.Errorf("%T: a nil Table's Get is %v, %v", zero, got, ok)
	}
}

func equal[V comparable](a, b V) bool { return a == b }

func TestValuesOfManyTypes(t *testing.T) {
	wantValues(t, equal, 1, 0, -5, math.MaxInt, math.MinInt)
	wantValues(t, equal, "one", "", "three")
	wantValues(t, equal, true, false)
	wantValues(t, equal, 1.5, -2)
	wantValues(t, equal, uint8(7), 255)
	wantValues(t, equal, entry{"k", 1}, entry{})
	wantValues(t, equal, [3]int{1, 2, 3}, [3]int{})
	wantValues(t, equal, new(int), nil, new(int))
	wantValues(t, equal, struct{}{}, struct{}{})
	wantValues(t, equal, any(1), any("text"), nil)
	wantValues(t, slices.Equal, []int{1, 2}, nil, []int{}, []int{3})
	wantValues(t, slices.Equal, []string{"a"}, nil, []string{"", "b"})
	wantValues(t, maps.Equal, map[string]int{"a": 1}, nil, map[string]int{})
	wantValues(t, func(a, b func() int) bool { return (a == nil) == (b == nil) && (a == nil || a() == b()) }, func() int { return 1 }, nil, func() int { return 2 })
	one, _ := of("a")
	wantValues(t, equal, one, nil, table.New[int]())
}

// TestTableOfRows: a row is put as it is, and one key's row is not another one's.
func TestTableOfRows(t *testing.T) {
	tab := table.New[[]int]()
	tab.Put("b", []int{1, 2})
	tab.Put("a", nil)
	tab.Put("c", []int{})
	got, ok := tab.Get("b")
	tab.Put("b", append(slices.Clone(got), 3))
	if !ok || !slices.Equal(got, []int{1, 2}) {
		t.Errorf("Get(b) = %v, %v", got, ok)
	}
	if got, ok := tab.Get("b"); !slices.Equal(got, []int{1, 2, 3}) || !ok {
		t.Errorf("Get(b) = %v, %v", got, ok)
	}
	if got, ok := tab.Get("a"); len(got) != 0 || !ok {
		t.Errorf("Get(a) = %v, %v", got, ok)
	}
	if got, ok := tab.Get("d"); got != nil || ok {
		t.Errorf("Get(d) = %v, %v", got, ok)
	}
}
