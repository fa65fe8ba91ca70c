package disk_test

import (
	"bytes"
	"math"
	"math/rand"
	"slices"
	"strconv"
	"strings"
	"testing"

	"till/api"
	"till/disk"
)

func made(t *testing.T, room int) *disk.Disk {
	t.Helper()
	d, e := disk.New(room)
	if d == nil || e != api.OK {
		t.Fatalf("New(%d): %v, %d", room, d, e)
	}
	return d
}

func loaded(t *testing.T, img []api.FileBytes, room int) *disk.Disk {
	t.Helper()
	d, e := disk.Load(img, room)
	if d == nil || e != api.OK {
		t.Fatalf("Load(%q, %d): %v, %d", told(img), room, d, e)
	}
	return d
}

// image makes one of names and texts in turn.
func image(words ...string) []api.FileBytes {
	var img []api.FileBytes
	for i := 0; i < len(words); i += 2 {
		img = append(img, api.FileBytes{Name: words[i], Data: []byte(words[i+1])})
	}
	return img
}

// told is an image in words.
func told(img []api.FileBytes) string {
	var out []string
	for _, f := range img {
		out = append(out, f.Name+"="+string(f.Data))
	}
	return strings.Join(out, " ")
}

func answers(t *testing.T, what string, have, want api.Errno) {
	t.Helper()
	if have != want {
		t.Errorf("%q: error %d, want %d", what, have, want)
	}
}

func leaves(t *testing.T, d *disk.Disk, want string, picks ...int) {
	t.Helper()
	if g := told(d.Crash(picks)); g != want {
		t.Errorf("Crash(%v): %q, want %q", picks, g, want)
	}
}

func strokes(t *testing.T, d *disk.Disk, want int) {
	t.Helper()
	if g := d.Strokes(); g != want {
		t.Errorf("Strokes: %d, want %d", g, want)
	}
}

func reads(t *testing.T, d *disk.Disk, name, want string) {
	t.Helper()
	b, e := d.Read(name)
	n, sized := d.Size(name)
	if e != api.OK || sized != api.OK || string(b) != want || n != len(want) {
		t.Errorf("Read(%s): %q, %d, size %d, %d; want %q", name, b, e, n, sized, want)
	}
}

func lists(t *testing.T, d *disk.Disk, want ...string) {
	t.Helper()
	if l, e := d.List(); e != api.OK || !slices.Equal(l, want) {
		t.Errorf("List: %q, %d; want %q", l, e, want)
	}
}

// badNames are no file names, each for one reason.
func badNames() []string {
	l := []string{"", strings.Repeat("a", 65), strings.Repeat("a", 1000), "a/b", "a b", "ab ", " ab", "Ab", "aB", "\u00e4", "\u0660", "a\x00", "\xff"}
	for c := range 256 {
		if !strings.Contains(nameBytes, string([]byte{byte(c)})) {
			l = append(l, "a"+string([]byte{byte(c)})+"b")
		}
	}
	return l
}

func goodNames() []string {
	l := []string{strings.Repeat("a", 64), strings.Repeat("-", 64), ".", "..", "-", "_", "0", nameBytes}
	for _, c := range []byte(nameBytes) {
		l = append(l, "x"+string([]byte{c}))
	}
	return l
}

func TestP4_1New(t *testing.T) {
	for _, room := range []int{-1, api.MaxRoom + 1, math.MinInt, math.MaxInt} {
		if d, e := disk.New(room); d != nil || e != api.ErrDiskRoom {
			t.Errorf("New(%d): %v, %d", room, d, e)
		}
	}
	for _, room := range []int{0, 1, 10, api.MaxRoom} {
		d := made(t, room)
		if d.Room() != room || d.Strokes() != 0 {
			t.Errorf("room %d, strokes %d", d.Room(), d.Strokes())
		}
		lists(t, d)
		leaves(t, d, "", 5, 5)
	}
}

func TestP4_1GreatestRoom(t *testing.T) {
	d := made(t, api.MaxRoom)
	b := bytes.Repeat([]byte("q"), api.MaxRoom-1)
	answers(t, "all but one", d.Append("a", b), api.OK)
	answers(t, "two more", d.Append("b", []byte("zz")), api.ErrDiskFull)
	answers(t, "the last one", d.Append("b", []byte("z")), api.OK)
	answers(t, "one above", d.Append("a", []byte("z")), api.ErrDiskFull)
	answers(t, "Sync", d.Sync("a"), api.OK)
	answers(t, "SyncNames", d.SyncNames(), api.OK)
	answers(t, "Cut", d.Cut("a", api.MaxRoom-2), api.OK)
	if got, e := d.Read("a"); e != api.OK || !bytes.Equal(got, b[1:]) {
		t.Errorf("Read: %d bytes, %d", len(got), e)
	}
	if img := d.Crash([]int{0, 0, 1}); len(img) != 2 || !bytes.Equal(img[0].Data, b) || string(img[1].Data) != "z" {
		t.Error("the image is another one")
	}
}

func TestP4_2LoadRefused(t *testing.T) {
	for _, room := range []int{-1, api.MaxRoom + 1, math.MinInt, math.MaxInt} {
		for _, img := range [][]api.FileBytes{nil, image("a", "x"), image("b", "", "a", "")} {
			if d, e := disk.Load(img, room); d != nil || e != api.ErrDiskRoom {
				t.Errorf("Load(%q, %d): %v, %d", told(img), room, d, e)
			}
		}
	}
	bad := [][]api.FileBytes{
		image("b", "", "a", ""), image("a", "", "c", "", "b", ""), image("a", "", "a", ""), image("a", "1", "b", "", "b", "2"),
		image("+", "", "a", ""), image("a", "", "~", ""), image("a", "12345678901"), image("a", "123456", "b", "12345"), image("a", "1234567890", "b", "", "c", "1"),
	}
	for _, name := range badNames() {
		bad = append(bad, image(name, ""))
	}
	for _, img := range bad {
		if d, e := disk.Load(img, 10); d != nil || e != api.ErrDiskImage {
			t.Errorf("Load(%q): %v, %d", told(img), d, e)
		}
	}
}

// many are so many files of one byte each, sorted by name.
func many(n int) []api.FileBytes {
	var img []api.FileBytes
	for i := range n {
		img = append(img, api.FileBytes{Name: "f" + strconv.Itoa(1000+i), Data: []byte{byte(i)}})
	}
	return img
}

func TestP4_2LoadOfMany(t *testing.T) {
	for _, n := range []int{65, 66, 500} {
		if d, e := disk.Load(many(n), 1000); d != nil || e != api.ErrDiskImage {
			t.Errorf("Load of %d: %v, %d", n, d, e)
		}
	}
	if d, e := disk.Load(many(64), 63); d != nil || e != api.ErrDiskImage {
		t.Errorf("Load of 64 bytes in 63: %v, %d", d, e)
	}
	d := loaded(t, many(64), 64)
	leaves(t, d, told(many(64)))
	answers(t, "a file more", d.Append("g", nil), api.ErrDiskName)
	answers(t, "a byte more", d.Append("f1000", []byte("x")), api.ErrDiskFull)
}

func TestP4_2LoadedIsSafe(t *testing.T) {
	for _, name := range goodNames() {
		reads(t, loaded(t, image(name, "x"), 1), name, "x")
	}
	d := loaded(t, image("-", "", "a", "12345", "b", "67890"), 10)
	strokes(t, d, 0)
	lists(t, d, "-", "a", "b")
	for _, picks := range [][]int{nil, {1}, {7, 7, 7, 7}, {-1, -1, -1, -1}} {
		leaves(t, d, "-= a=12345 b=67890", picks...)
	}
	answers(t, "Append", d.Append("a", []byte("6")), api.ErrDiskFull)
	answers(t, "Cut", d.Cut("a", 2), api.OK)
	answers(t, "Append", d.Append("c", []byte("678")), api.OK)
	leaves(t, d, "-= a=12345 b=67890")
	leaves(t, d, "-= a=12 b=67890 c=678", 1, 0, 1, 0, 3)
}

// afterOff is every call that answers an error, on a disk whose power is off, with what may be and what may not.
func afterOff(d *disk.Disk) []api.Errno {
	var l []api.Errno
	for _, name := range []string{"a", "none", "A", ""} {
		_, read := d.Read(name)
		_, size := d.Size(name)
		l = append(l, read, size, d.Append(name, []byte("z")), d.Append(name, make([]byte, 999)), d.Cut(name, 0), d.Cut(name, -1), d.Cut(name, 99), d.Sync(name), d.Remove(name))
		for _, other := range []string{"a", "none", "A", ""} {
			l = append(l, d.Rename(name, other))
		}
	}
	_, list := d.List()
	return append(l, list, d.SyncNames())
}

func TestP4_3Off(t *testing.T) {
	d := loaded(t, image("a", "xy"), 9)
	d.Append("b", nil)
	d.Plan(api.Plan{Off: 1})
	answers(t, "Cut", d.Cut("a", 1), api.ErrDiskOff)
	for range 3 {
		for i, e := range afterOff(d) {
			answers(t, "call "+strconv.Itoa(i), e, api.ErrDiskOff)
		}
		if b, _ := d.Read("a"); b != nil {
			t.Errorf("Read: %q", b)
		}
		if n, _ := d.Size("a"); n != 0 {
			t.Errorf("Size: %d", n)
		}
		if l, _ := d.List(); l != nil {
			t.Errorf("List: %q", l)
		}
		strokes(t, d, 2)
		if d.Room() != 9 {
			t.Errorf("Room: %d", d.Room())
		}
		leaves(t, d, "a=xy")
		leaves(t, d, "a=x b=", 1, 1)
		d.Plan(api.Plan{})
		d.Plan(api.Plan{Off: 5, FullFrom: 1, FullTo: 9})
	}
}

func TestP4_4AppendNames(t *testing.T) {
	d := made(t, 100)
	for _, name := range badNames() {
		answers(t, "Append "+name, d.Append(name, nil), api.ErrDiskName)
	}
	strokes(t, d, 0)
	lists(t, d)
	for _, name := range goodNames() {
		answers(t, "Append "+name, d.Append(name, []byte("x")), api.OK)
		reads(t, d, name, "x")
	}
}

func TestP4_4AppendBytes(t *testing.T) {
	d := made(t, 10)
	answers(t, "nothing", d.Append("a", nil), api.OK)
	lists(t, d, "a")
	reads(t, d, "a", "")
	leaves(t, d, "")
	leaves(t, d, "a=", 1, 5)
	answers(t, "three", d.Append("a", []byte("xyz")), api.OK)
	answers(t, "nothing", d.Append("a", []byte{}), api.OK)
	answers(t, "two", d.Append("a", []byte{0, 255}), api.OK)
	reads(t, d, "a", "xyz\x00\xff")
	for kept := range 6 {
		leaves(t, d, "a="+"xyz\x00\xff"[:kept], 1, kept)
	}
	leaves(t, d, "a=", 1, 6)
	leaves(t, d, "", 2)
	strokes(t, d, 4)
}

func TestP4_4AppendFull(t *testing.T) {
	d := made(t, 10)
	answers(t, "three", d.Append("a", []byte("xyz")), api.OK)
	answers(t, "eight more, in a new file", d.Append("b", []byte("12345678")), api.ErrDiskFull)
	answers(t, "eight more, behind", d.Append("a", []byte("12345678")), api.ErrDiskFull)
	lists(t, d, "a")
	leaves(t, d, "a=xyz", -1, -1)
	strokes(t, d, 3)
	answers(t, "seven more", d.Append("b", []byte("1234567")), api.OK)
	answers(t, "nothing, in a new file", d.Append("c", nil), api.OK)
	answers(t, "one more", d.Append("c", []byte("1")), api.ErrDiskFull)
	answers(t, "Cut", d.Cut("a", 2), api.OK)
	answers(t, "in the place of what was cut", d.Append("c", []byte("1")), api.OK)
	answers(t, "one more", d.Append("c", []byte("1")), api.ErrDiskFull)
	answers(t, "Remove", d.Remove("b"), api.OK)
	answers(t, "more than was removed", d.Append("c", []byte("12345678")), api.ErrDiskFull)
	answers(t, "in the place of what was removed", d.Append("c", []byte("2345678")), api.OK)
	answers(t, "Rename onto one", d.Rename("a", "c"), api.OK)
	answers(t, "in its place", d.Append("b", []byte("12345678")), api.OK)
	answers(t, "one more", d.Append("b", []byte("1")), api.ErrDiskFull)
}

func TestP4_4AppendMany(t *testing.T) {
	d := made(t, 100)
	for i := range 64 {
		answers(t, "a file", d.Append("f"+strconv.Itoa(i), nil), api.OK)
	}
	strokes(t, d, 64)
	answers(t, "one more", d.Append("g", nil), api.ErrDiskName)
	answers(t, "one more, without room", d.Append("g", make([]byte, 101)), api.ErrDiskName)
	strokes(t, d, 64)
	answers(t, "one that is there", d.Append("f63", []byte("x")), api.OK)
	answers(t, "Rename to a new name", d.Rename("f0", "g"), api.OK)
	answers(t, "one more", d.Append("f0", nil), api.ErrDiskName)
	answers(t, "Rename onto one", d.Rename("g", "f1"), api.OK)
	answers(t, "in its place", d.Append("f0", nil), api.OK)
	answers(t, "one more", d.Append("g", nil), api.ErrDiskName)
	answers(t, "Remove", d.Remove("f5"), api.OK)
	answers(t, "in its place", d.Append("g", nil), api.OK)
	if img := d.Crash([]int{-1}); len(img) != 64 {
		t.Errorf("%d files are left", len(img))
	}
}

func TestP4_5Cut(t *testing.T) {
	d := loaded(t, image("a", "xyz", "e", ""), 10)
	for _, name := range badNames() {
		answers(t, "Cut "+name, d.Cut(name, -1), api.ErrDiskName)
	}
	answers(t, "Cut of none", d.Cut("b", -1), api.ErrDiskNone)
	for _, n := range []int{-1, 4, math.MinInt, math.MaxInt} {
		answers(t, "Cut to "+strconv.Itoa(n), d.Cut("a", n), api.ErrDiskCut)
	}
	answers(t, "Cut of an empty one", d.Cut("e", 1), api.ErrDiskCut)
	strokes(t, d, 0)
	answers(t, "Cut to its length", d.Cut("a", 3), api.OK)
	answers(t, "Cut of an empty one", d.Cut("e", 0), api.OK)
	strokes(t, d, 2)
	answers(t, "Cut", d.Cut("a", 1), api.OK)
	reads(t, d, "a", "x")
	answers(t, "Cut to more", d.Cut("a", 2), api.ErrDiskCut)
	answers(t, "Append", d.Append("a", []byte("qq")), api.OK)
	answers(t, "Cut", d.Cut("a", 0), api.OK)
	strokes(t, d, 5)
	for kept, want := range []string{"xyz", "x", "xq", "xqq", "", "xyz"} { // the two that cut nothing are no units
		leaves(t, d, "a="+want+" e=", 0, kept, kept)
	}
}

func TestP4_6Sync(t *testing.T) {
	d := made(t, 20)
	for _, name := range badNames() {
		answers(t, "Sync "+name, d.Sync(name), api.ErrDiskName)
	}
	answers(t, "Sync of none", d.Sync("a"), api.ErrDiskNone)
	strokes(t, d, 0)
	d.Append("a", []byte("xyz"))
	d.Cut("a", 2)
	d.Append("b", []byte("q"))
	answers(t, "Sync", d.Sync("a"), api.OK)
	strokes(t, d, 4)
	leaves(t, d, "") // the names are not safe
	leaves(t, d, "a=xy", 1)
	leaves(t, d, "a=xy", 1, 1)
	leaves(t, d, "a=xy", 1, 3)
	leaves(t, d, "a=xy b=", 2, 0)
	leaves(t, d, "a=xy b=q", 2, 0, 1)
	answers(t, "SyncNames", d.SyncNames(), api.OK)
	strokes(t, d, 5)
	leaves(t, d, "a=xy b=", 1) // b's bytes are not safe
	leaves(t, d, "a=xy b=q", 1, 0, 1)
	d.Append("a", []byte("!"))
	leaves(t, d, "a=xy b=q", 0, 0, 1)
	leaves(t, d, "a=xy! b=", 0, 1)
	answers(t, "Sync again", d.Sync("a"), api.OK)
	answers(t, "Sync again", d.Sync("a"), api.OK)
	leaves(t, d, "a=xy! b=", 0, 0)
	reads(t, d, "a", "xy!")
}

// A file's bytes are made safe by whatever name it is seen, and whatever name it is left under.
func TestP4_6SyncBehindRename(t *testing.T) {
	d := loaded(t, image("a", "old"), 20)
	d.Rename("a", "b")
	d.Append("b", []byte("er"))
	d.Sync("b")
	leaves(t, d, "a=older")
	leaves(t, d, "b=older", 1)
	d.Append("a", []byte("new"))
	d.Sync("a") // another file
	leaves(t, d, "a=older")
	leaves(t, d, "a=new b=older", 2)
	d.SyncNames()
	leaves(t, d, "a=new b=older", 1, 1, 1)
}

func TestP4_6SyncNamesAlone(t *testing.T) {
	d := made(t, 9)
	answers(t, "SyncNames of none", d.SyncNames(), api.OK)
	strokes(t, d, 1)
	lists(t, d)
	d.Append("a", []byte("x"))
	d.SyncNames()
	d.Remove("a")
	leaves(t, d, "a=x", 0, 1)
	d.SyncNames()
	leaves(t, d, "", 0, 1)
	d.Append("a", nil)
	leaves(t, d, "", 0, 1)
	leaves(t, d, "a=", 1, 1) // nothing is left of the first one
}

func TestP4_7RenameRefused(t *testing.T) {
	d := loaded(t, image("a", "x"), 9)
	for _, name := range badNames() {
		answers(t, "from "+name, d.Rename(name, "b"), api.ErrDiskName)
		answers(t, "to "+name, d.Rename("a", name), api.ErrDiskName)
		answers(t, "from none to "+name, d.Rename("none", name), api.ErrDiskName)
		answers(t, "Remove "+name, d.Remove(name), api.ErrDiskName)
	}
	answers(t, "from none", d.Rename("none", "b"), api.ErrDiskNone)
	answers(t, "from none to one", d.Rename("none", "a"), api.ErrDiskNone)
	answers(t, "from none to none", d.Rename("none", "none"), api.ErrDiskNone)
	answers(t, "Remove none", d.Remove("none"), api.ErrDiskNone)
	strokes(t, d, 0)
	leaves(t, d, "a=x", -1)
}

func TestP4_7Rename(t *testing.T) {
	d := loaded(t, image("a", "old"), 99)
	d.Append("t", []byte("new"))
	d.Sync("t")
	d.SyncNames()
	answers(t, "Rename", d.Rename("t", "a"), api.OK)
	leaves(t, d, "a=old t=new")
	leaves(t, d, "a=new", 1)
	leaves(t, d, "a=old t=new", 2)
	lists(t, d, "a")
	reads(t, d, "a", "new")
	answers(t, "Rename onto itself", d.Rename("a", "a"), api.OK)
	strokes(t, d, 5)
	reads(t, d, "a", "new")
	leaves(t, d, "a=old t=new", 2) // that was no name change
	d.Rename("a", "b")
	d.Append("b", []byte("er"))
	leaves(t, d, "a=old t=newer", 0, 0, 2) // units go with the file, whatever its name
	leaves(t, d, "a=newer", 1, 2)
	leaves(t, d, "b=newe", 2, 1)
	d.SyncNames()
	leaves(t, d, "b=new", 1)
}

func TestP4_7Remove(t *testing.T) {
	d := loaded(t, image("a", "old"), 99)
	d.Append("a", []byte("er"))
	answers(t, "Remove", d.Remove("a"), api.OK)
	strokes(t, d, 2)
	answers(t, "Remove again", d.Remove("a"), api.ErrDiskNone)
	answers(t, "Cut", d.Cut("a", 0), api.ErrDiskNone)
	answers(t, "Sync", d.Sync("a"), api.ErrDiskNone)
	answers(t, "Rename", d.Rename("a", "b"), api.ErrDiskNone)
	_, e := d.Read("a")
	answers(t, "Read", e, api.ErrDiskNone)
	_, e = d.Size("a")
	answers(t, "Size", e, api.ErrDiskNone)
	lists(t, d)
	strokes(t, d, 2)
	d.Append("a", []byte("z"))
	reads(t, d, "a", "z")
	leaves(t, d, "a=older", 0, 2)
	leaves(t, d, "", 1, 2)
	leaves(t, d, "a=z", 2, 1)
	leaves(t, d, "a=", 2, 2)
	d.SyncNames()
	leaves(t, d, "a=z", 0, 1)
}

func TestP4_8Read(t *testing.T) {
	d := made(t, 20)
	for _, name := range append(badNames(), "a/b") {
		b, e := d.Read(name)
		n, sized := d.Size(name)
		if b != nil || n != 0 || e != api.ErrDiskName || sized != api.ErrDiskName {
			t.Errorf("Read(%q): %q, %d; Size: %d, %d", name, b, e, n, sized)
		}
	}
	b, e := d.Read("a")
	n, sized := d.Size("a")
	if b != nil || n != 0 || e != api.ErrDiskNone || sized != api.ErrDiskNone {
		t.Errorf("Read of none: %q, %d; Size: %d, %d", b, e, n, sized)
	}
	for _, name := range []string{"b", "a.new", "a", "_", "0", "-", "a-b", "z"} {
		d.Append(name, []byte(name))
	}
	lists(t, d, "-", "0", "_", "a", "a-b", "a.new", "b", "z")
	reads(t, d, "a.new", "a.new")
	d.Sync("a.new")
	d.Append("a.new", []byte("!"))
	d.Cut("a.new", 1)
	d.Append("a.new", []byte("?"))
	reads(t, d, "a.new", "a?")
	strokes(t, d, 12) // reading is none
}

func TestP4_9Strokes(t *testing.T) {
	d := made(t, 5)
	steps := []func() api.Errno{
		func() api.Errno { return d.Append("a", []byte("x")) },
		func() api.Errno { return d.Append("a", []byte("123456")) },
		func() api.Errno { return d.Append("a", nil) },
		func() api.Errno { return d.Cut("a", 1) },
		func() api.Errno { return d.Cut("a", 0) },
		func() api.Errno { return d.Sync("a") },
		func() api.Errno { return d.SyncNames() },
		func() api.Errno { return d.Rename("a", "a") },
		func() api.Errno { return d.Rename("a", "b") },
		func() api.Errno { return d.Remove("b") },
	}
	for i, step := range steps {
		e := step()
		if want := map[int]api.Errno{1: api.ErrDiskFull}[i]; e != want {
			t.Errorf("step %d: error %d", i, e)
		}
		d.Plan(api.Plan{})
		d.Crash([]int{1, 1})
		d.Append("A", nil)
		d.Cut("none", 0)
		strokes(t, d, i+1)
	}
	d.Plan(api.Plan{Off: 1})
	answers(t, "off", d.Append("a", make([]byte, 9)), api.ErrDiskOff)
	strokes(t, d, len(steps)+1)
	d.SyncNames()
	strokes(t, d, len(steps)+1)
	if d.Room() != 5 {
		t.Errorf("Room: %d", d.Room())
	}
}

func TestP4_10Full(t *testing.T) {
	d := made(t, 99)
	d.Append("a", []byte("x"))
	d.Plan(api.Plan{FullFrom: 3, FullTo: 5})
	answers(t, "1", d.Append("a", []byte("1")), api.OK)
	answers(t, "a bad name is no stroke", d.Append("A", nil), api.ErrDiskName)
	answers(t, "2", d.Sync("a"), api.OK)
	answers(t, "3, in a new file", d.Append("b", []byte("3")), api.ErrDiskFull)
	answers(t, "4, others are not refused", d.Rename("a", "c"), api.OK)
	answers(t, "5, of nothing", d.Append("c", nil), api.ErrDiskFull)
	answers(t, "6", d.Append("c", []byte("6")), api.OK)
	reads(t, d, "c", "x16")
	lists(t, d, "c")
	strokes(t, d, 7)
	d.Plan(api.Plan{FullFrom: 1, FullTo: math.MaxInt})
	answers(t, "for ever", d.Append("c", nil), api.ErrDiskFull)
	d.Plan(api.Plan{})
	answers(t, "an older plan is forgotten", d.Append("c", nil), api.OK)
	for _, p := range []api.Plan{{FullTo: 9}, {FullFrom: -3, FullTo: 9}, {FullFrom: 2, FullTo: 1}, {FullFrom: math.MinInt, FullTo: math.MaxInt}, {FullFrom: 1, FullTo: 0}, {FullFrom: 1, FullTo: -5}} {
		d.Plan(p)
		for range 4 {
			answers(t, "a plan for no stroke", d.Append("c", nil), api.OK)
		}
	}
}

func TestP4_10OffAtNone(t *testing.T) {
	for _, off := range []int{0, -1, math.MinInt, math.MaxInt, 9} {
		d := made(t, 99)
		d.Append("a", []byte("x"))
		d.Plan(api.Plan{Off: off})
		for range 8 {
			answers(t, "no stroke", d.Append("a", []byte("y")), api.OK)
		}
	}
	d := made(t, 99)
	d.Plan(api.Plan{Off: 2})
	answers(t, "1", d.Append("a", []byte("x")), api.OK)
	d.Plan(api.Plan{Off: 2})
	answers(t, "counted anew", d.Append("a", []byte("y")), api.OK)
	answers(t, "no stroke", d.Cut("b", 0), api.ErrDiskNone)
	answers(t, "no stroke", d.Cut("a", 3), api.ErrDiskCut)
	answers(t, "no stroke", d.Rename("a", "A"), api.ErrDiskName)
	answers(t, "off", d.Append("a", []byte("z")), api.ErrDiskOff)
	strokes(t, d, 3)
	leaves(t, d, "a=xyz", 1, 3)
}

// What is left behind each kind of stroke at which the power goes off, with all of it kept and with nothing.
func TestP4_10OffAt(t *testing.T) {
	for _, c := range []struct {
		what       string
		do         func(d *disk.Disk) api.Errno
		none, most string
	}{
		{"Append", func(d *disk.Disk) api.Errno { return d.Append("a", []byte("yz")) }, "a=", "a=xyz"},
		{"Append of a new one", func(d *disk.Disk) api.Errno { return d.Append("b", []byte("yz")) }, "a=", "a=x b=yz"},
		{"Append of nothing", func(d *disk.Disk) api.Errno { return d.Append("b", nil) }, "a=", "a=x b="},
		{"Append without room", func(d *disk.Disk) api.Errno { return d.Append("b", make([]byte, 9)) }, "a=", "a=x"},
		{"Append behind, without room", func(d *disk.Disk) api.Errno { return d.Append("a", make([]byte, 9)) }, "a=", "a=x"},
		{"Cut", func(d *disk.Disk) api.Errno { return d.Cut("a", 0) }, "a=", "a="},
		{"Sync", func(d *disk.Disk) api.Errno { return d.Sync("a") }, "a=", "a=x"},
		{"SyncNames", func(d *disk.Disk) api.Errno { return d.SyncNames() }, "a=", "a=x"},
		{"Rename", func(d *disk.Disk) api.Errno { return d.Rename("a", "b") }, "a=", "b=x"},
		{"Rename onto itself", func(d *disk.Disk) api.Errno { return d.Rename("a", "a") }, "a=", "a=x"},
		{"Remove", func(d *disk.Disk) api.Errno { return d.Remove("a") }, "a=", ""},
	} {
		d := made(t, 9)
		d.Append("a", []byte("x"))
		d.SyncNames()
		d.Plan(api.Plan{Off: 1})
		answers(t, c.what, c.do(d), api.ErrDiskOff)
		answers(t, c.what+" again", c.do(d), api.ErrDiskOff)
		strokes(t, d, 3)
		leaves(t, d, c.none)
		leaves(t, d, c.most, -1, -1, -1)
	}
}

func TestP4_10OffAtSyncs(t *testing.T) {
	d := made(t, 9)
	d.Append("a", []byte("x"))
	d.Plan(api.Plan{Off: 1})
	answers(t, "SyncNames", d.SyncNames(), api.ErrDiskOff)
	leaves(t, d, "")
	leaves(t, d, "a=x", 1, 1)
	d = loaded(t, image("a", "xy"), 9)
	d.Cut("a", 1)
	d.Plan(api.Plan{Off: 1})
	answers(t, "Sync", d.Sync("a"), api.ErrDiskOff)
	leaves(t, d, "a=xy")
	leaves(t, d, "a=x", 0, 1)
	d = loaded(t, image("a", "xy"), 9)
	d.Plan(api.Plan{Off: 2, FullFrom: 1, FullTo: 3})
	answers(t, "full", d.Append("b", nil), api.ErrDiskFull)
	answers(t, "full and off", d.Append("b", nil), api.ErrDiskOff)
	leaves(t, d, "a=xy", -1, -1)
}

func TestP4_11Picks(t *testing.T) {
	d := made(t, 99)
	d.Append("b", []byte("12"))
	d.Append("a", []byte("xyz"))
	d.Append("c", nil)
	d.Append("d", []byte("!"))
	d.Sync("d")
	leaves(t, d, "")
	leaves(t, d, "b=12", 1, 2)
	leaves(t, d, "a=xy b=1", 2, 2, 1) // picks go by name, not by what was made first
	leaves(t, d, "a=xy b=1 c=", 3, 2, 1, 7)
	leaves(t, d, "a=xyz b=12 c= d=!", 4, 3, 2)
	leaves(t, d, "a=xyz b=12 c= d=!", 4, 3, 2, 1, 1, 1, 1)
	leaves(t, d, "a=xyz b=12 c= d=!", -1, -1, -1, -1, -1)
	leaves(t, d, "a=xy b=1 c=", -2, -2, -2, -2, -2)
	leaves(t, d, "a=xyz b=12 c= d=!", 9, 7, 5)
	leaves(t, d, "", 5, 1)
	leaves(t, d, "b=", 6, 3)
	leaves(t, d, "a=xyz b=1", math.MinInt, math.MaxInt, math.MinInt) // -2^63 modulo 5 is 2; 2^63 - 1 modulo 4 is 3; -2^63 modulo 3 is 1
}

func TestP4_11ChangesNothing(t *testing.T) {
	d := loaded(t, image("a", "safe"), 9)
	d.Cut("a", 1)
	d.Append("b", []byte("new"))
	for range 3 {
		for n := range 9 {
			d.Crash([]int{n, n, n})
		}
		lists(t, d, "a", "b")
		reads(t, d, "a", "s")
		reads(t, d, "b", "new")
		strokes(t, d, 2)
		leaves(t, d, "a=safe")
	}
	answers(t, "Append", d.Append("a", []byte("q")), api.OK)
	leaves(t, d, "a=sq b=n", 1, 2, 1)
	picks := []int{1, 2, 1}
	d.Crash(picks)
	if !slices.Equal(picks, []int{1, 2, 1}) {
		t.Errorf("the picks are others: %v", picks)
	}
}

func TestP4_11MoreThanTheRoom(t *testing.T) {
	d := loaded(t, image("a", "12345", "b", "12345"), 10)
	d.Remove("b")
	d.Append("a", []byte("67890"))
	img := d.Crash([]int{0, 5})
	if told(img) != "a=1234567890 b=12345" {
		t.Fatalf("the image: %q", told(img))
	}
	if x, e := disk.Load(img, 14); x != nil || e != api.ErrDiskImage {
		t.Errorf("Load: %v, %d", x, e)
	}
	leaves(t, loaded(t, img, 15), told(img))
}

// Whatever a script does to others, a file that it only appends to is in every image, with its safe bytes first.
func TestP4_12SafeStays(t *testing.T) {
	r := rand.New(rand.NewSource(43))
	for range 500 {
		d := loaded(t, image("keep", "safe"), 200)
		whole := "safe"
		safe := whole
		d.Plan(api.Plan{Off: 1 + r.Intn(40)})
		for range 40 {
			name, other := drawnName(r), drawnName(r)
			switch r.Intn(6) {
			case 0:
				if b := drawnBytes(r); d.Append("keep", b) != api.ErrDiskFull {
					whole += string(b)
				}
			case 1:
				if d.Sync("keep") == api.OK {
					safe = whole
				}
			case 2:
				d.SyncNames()
			case 3:
				d.Append(name, drawnBytes(r))
			case 4:
				d.Rename(name, other)
			case 5:
				d.Remove(name)
			}
			img := d.Crash(drawnPicks(r))
			i := slices.IndexFunc(img, func(f api.FileBytes) bool { return f.Name == "keep" })
			if i < 0 || !strings.HasPrefix(string(img[i].Data), safe) || !strings.HasPrefix(whole, string(img[i].Data)) {
				t.Fatalf("%q is safe, %q was written: %q", safe, whole, told(img))
			}
			if !slices.IsSortedFunc(img, func(a, b api.FileBytes) int { return strings.Compare(a.Name, b.Name) }) {
				t.Fatalf("not sorted: %q", told(img))
			}
		}
	}
}

func TestP4_13LoadAndCrash(t *testing.T) {
	r := rand.New(rand.NewSource(44))
	for range 300 {
		d, m := made(t, 100), newModel(100)
		for range 30 {
			both(r, d, m)
		}
		img := d.Crash(drawnPicks(r))
		x := loaded(t, img, 10000)
		for range 5 {
			leaves(t, x, told(img), drawnPicks(r)...)
		}
	}
	leaves(t, loaded(t, nil, 0), "", 3, 3)
}

func scribble(b []byte) {
	b = b[:cap(b)]
	for i := range b {
		b[i] = '#'
	}
}

func TestP4_14HandedIn(t *testing.T) {
	img := image("a", "one", "b", "two")
	d := loaded(t, img, 99)
	scribble(img[0].Data)
	img[1] = api.FileBytes{Name: "z"}
	leaves(t, d, "a=one b=two")
	b := []byte("three--")
	d.Append("c", b[:5])
	if string(b) != "three--" {
		t.Errorf("the bytes are others: %q", b)
	}
	scribble(b)
	reads(t, d, "c", "three")
	leaves(t, d, "a=one b=two c=three", 1, 0, 0, 5)
}

func TestP4_14Answered(t *testing.T) {
	d := loaded(t, image("a", "one", "b", "two"), 99)
	d.Append("a", []byte("+1"))
	d.Cut("b", 1)
	d.Append("c", []byte("three"))
	for range 2 {
		for _, name := range []string{"a", "b", "c"} {
			got, _ := d.Read(name)
			scribble(got)
		}
		l, _ := d.List()
		for i := range l[:cap(l)] {
			l[:cap(l)][i] = "#"
		}
		for _, f := range d.Crash([]int{0, 1, 0, 0}) {
			scribble(f.Data)
		}
		img := d.Crash([]int{1, 2, 1, 5})
		for i := range img {
			keep := told(slices.Concat(img[:i], img[i+1:]))
			scribble(img[i].Data)
			if g := told(slices.Concat(img[:i], img[i+1:])); g != keep {
				t.Errorf("two files share memory: %q, then %q", keep, g)
			}
		}
		reads(t, d, "a", "one+1")
		reads(t, d, "b", "t")
		reads(t, d, "c", "three")
		lists(t, d, "a", "b", "c")
		leaves(t, d, "a=one b=two")
		leaves(t, d, "a=one+1 b=t c=three", 1, 2, 1, 5)
		d.Sync("c")
		d.Append("c", nil)
	}
}

// What was read stays, whatever comes to the file behind it: what is safe is made anew in its own place alone.
func TestP4_14AnswersStay(t *testing.T) {
	d := loaded(t, image("a", "12345678"), 99)
	first, _ := d.Read("a")
	left := d.Crash(nil)
	d.Cut("a", 2)
	d.Append("a", []byte("abc"))
	second, _ := d.Read("a")
	d.Sync("a")
	d.Cut("a", 0)
	d.Append("a", []byte("zzzzzz"))
	d.Sync("a")
	if string(first) != "12345678" || told(left) != "a=12345678" || string(second) != "12abc" {
		t.Errorf("%q, %q, %q", first, told(left), second)
	}
}

func TestP4_14TwoDisks(t *testing.T) {
	img := image("a", "one", "b", "two")
	d, other := loaded(t, img, 99), loaded(t, img, 99)
	empty := made(t, 99)
	d.Append("a", []byte("!"))
	d.Cut("b", 0)
	d.Remove("b")
	d.Sync("a")
	d.SyncNames()
	d.Plan(api.Plan{Off: 1})
	d.SyncNames()
	leaves(t, other, "a=one b=two", 1, 1, 1)
	reads(t, other, "a", "one")
	strokes(t, other, 0)
	lists(t, empty)
	answers(t, "SyncNames of the other", other.SyncNames(), api.OK)
}

func TestP4_14OfNothingMade(t *testing.T) {
	var d disk.Disk
	leaves(t, &d, "", 1, 1)
	lists(t, &d)
	answers(t, "Append", d.Append("a", nil), api.OK)
	answers(t, "Append", d.Append("a", []byte("x")), api.ErrDiskFull)
	answers(t, "SyncNames", d.SyncNames(), api.OK)
	leaves(t, &d, "a=")
}

func TestExamples(t *testing.T) {
	d := made(t, 10)
	answers(t, "Append a", d.Append("a", []byte("xyz")), api.OK)
	answers(t, "Append b", d.Append("b", []byte("12345678")), api.ErrDiskFull)
	answers(t, "Append A", d.Append("A", nil), api.ErrDiskName)
	_, e := d.Read("b")
	answers(t, "Read b", e, api.ErrDiskNone)
	lists(t, d, "a")
	reads(t, d, "a", "xyz")
	strokes(t, d, 2)
	leaves(t, d, "")
	leaves(t, d, "a=", 1)
	leaves(t, d, "a=xy", 1, 2)
	leaves(t, d, "a=xyz", -1, -1)
	answers(t, "Append a", d.Append("a", []byte("q")), api.OK)

	d = made(t, 10)
	d.Plan(api.Plan{Off: 2})
	answers(t, "the first", d.Append("a", []byte("x")), api.OK)
	answers(t, "the second", d.Append("a", []byte("y")), api.ErrDiskOff)
	_, e = d.Read("a")
	answers(t, "Read", e, api.ErrDiskOff)
	leaves(t, d, "a=xy", 1, 2)

	d = made(t, 10)
	d.Plan(api.Plan{FullFrom: 2, FullTo: 2})
	answers(t, "the first", d.Append("a", []byte("x")), api.OK)
	answers(t, "the second", d.Append("a", []byte("y")), api.ErrDiskFull)
	answers(t, "the third", d.Append("a", []byte("z")), api.OK)
	reads(t, d, "a", "xz")
}
