package shape

import (
	"math"
	"strings"
	"testing"

	"turntable/api"
)

// greatestHead is the Head of 16 slots that all hold pointers: 65535 times 32, and 16.
const greatestHead = 2097136

// mustBe asks for the shape that a text is.
func mustBe(t *testing.T, s string, want api.Shape) {
	t.Helper()
	if got, code := Parse(s); got != want || code != api.OK {
		t.Errorf("Parse(%q) = %v, %d, want %v", s, got, code, want)
	}
}

// mustRefuse asks for ErrShape, and the zero shape beside it (R2).
func mustRefuse(t *testing.T, s string) {
	t.Helper()
	if got, code := Parse(s); got != (api.Shape{}) || code != api.ErrShape {
		t.Errorf("Parse(%.40q) = %v, %d, want ErrShape", s, got, code)
	}
}

// each hands over every shape that may be with its letters, made here without a call of the package.
func each(do func(x api.Shape, letters string)) {
	do(api.Shape{}, ".")
	texts := []string{""}
	for slots := 1; slots <= 16; slots++ {
		// A slot more is the highest bit: the first half of the masks has a number in it, the second a pointer.
		var longer []string
		for _, last := range []string{"i", "p"} {
			for _, s := range texts {
				longer = append(longer, s+last)
			}
		}
		texts = longer
		for mask, s := range texts {
			do(api.Shape{Slots: slots, Mask: mask}, s)
		}
	}
}

// TestExample: the chapter's example.
func TestExample(t *testing.T) {
	x := api.Shape{Slots: 3, Mask: 6}
	mustBe(t, "ipp", x)
	if got := Head(x); got != 195 {
		t.Errorf("Head = %d, want 195", got)
	}
	if got, code := Of(195); got != x || code != api.OK {
		t.Errorf("Of(195) = %v, %d", got, code)
	}
}

// TestParse: promise 3.1, ordinary texts, that of no slots, and those of just MaxSlots letters.
func TestParse(t *testing.T) {
	mustBe(t, ".", api.Shape{})
	mustBe(t, "i", api.Shape{Slots: 1})
	mustBe(t, "p", api.Shape{Slots: 1, Mask: 1})
	mustBe(t, "pi", api.Shape{Slots: 2, Mask: 1})
	mustBe(t, "ip", api.Shape{Slots: 2, Mask: 2})
	mustBe(t, "ipipp", api.Shape{Slots: 5, Mask: 26})
	mustBe(t, strings.Repeat("i", 16), api.Shape{Slots: 16})
	mustBe(t, strings.Repeat("p", 16), api.Shape{Slots: 16, Mask: 65535})
	mustBe(t, strings.Repeat("i", 15)+"p", api.Shape{Slots: 16, Mask: 32768})
	mustBe(t, "p"+strings.Repeat("i", 15), api.Shape{Slots: 16, Mask: 1})
}

// TestParseRefuses: promise 3.1, texts of too few or too many letters, and of others.
func TestParseRefuses(t *testing.T) {
	for _, s := range []string{"", "..", "i.", ".i", "p.", ".p", "i.p", "...", " ", ". ", " .", "i ", " i", "i p",
		"I", "P", "iP", "x", "ix", "xi", "ipx", "ipq", "iph", "o", "n", "0", "1", "10", "#", "i#", "i\n", "i\x00", "\x00",
		"é", "ié", "éi", "ı", "р", "iр", "\x80", "\xff", "i\xe9", "\xf0", "p\xf0", "ipp\xff", ",", "i,p", "ï", "\u00ad."} {
		mustRefuse(t, s)
	}
	for _, letter := range []string{"i", "p", ".", "ip", "x", "\xff"} {
		for _, letters := range []int{17, 18, 31, 32, 33, 63, 64, 65, 255, 256, 257, 1 << 16} {
			mustRefuse(t, strings.Repeat(letter, letters)[:letters])
		}
	}
	full := strings.Repeat("ip", 8)
	mustRefuse(t, full+"i")
	mustRefuse(t, full+"p")
	mustRefuse(t, full+".")
	for at := range full {
		for _, wrong := range []string{".", "x", "I", " ", "\x00", "\xe9"} {
			mustRefuse(t, full[:at]+wrong+full[at+1:])
		}
	}
}

// TestParseBytes: promise 3.1, every byte alone, and each two beside each other.
func TestParseBytes(t *testing.T) {
	fits := func(b int) bool { return b == 'i' || b == 'p' }
	bit := map[int]int{'p': 1}
	for a := range 256 {
		one := string([]byte{byte(a)})
		switch {
		case a == '.':
			mustBe(t, one, api.Shape{})
		case fits(a):
			mustBe(t, one, api.Shape{Slots: 1, Mask: bit[a]})
		default:
			mustRefuse(t, one)
		}
		for b := range 256 {
			two := string([]byte{byte(a), byte(b)})
			if fits(a) && fits(b) {
				mustBe(t, two, api.Shape{Slots: 2, Mask: bit[a] + 2*bit[b]})
			} else {
				mustRefuse(t, two)
			}
		}
	}
}

// TestCheck: promise 3.2, the least and the greatest Mask of each number of slots, and those just outside.
func TestCheck(t *testing.T) {
	for slots := -40; slots <= 80; slots++ {
		may := slots >= 0 && slots <= 16
		beyond := 1 << max(0, min(slots, 62))
		for mask, fits := range map[int]bool{
			0: true, beyond - 1: true, beyond / 2: beyond/2 < beyond,
			-1: false, -2: false, -beyond: false, beyond: false, beyond + 1: false, 2 * beyond: false,
			math.MinInt: false, math.MaxInt: false, math.MinInt + beyond: false,
		} {
			want := api.ErrShape
			if may && fits {
				want = api.OK
			}
			if got := Check(api.Shape{Slots: slots, Mask: mask}); got != want {
				t.Errorf("Check(%d slots, mask %d) = %d, want %d", slots, mask, got, want)
			}
		}
	}
}

// TestCheckSlots: promise 3.2, Slots below 0 and too great, with Masks that would do for others.
func TestCheckSlots(t *testing.T) {
	for _, slots := range []int{math.MinInt, math.MinInt + 1, -1 << 32, -65, -64, -17, -16, -2, -1, 17, 18, 31, 32, 33, 63, 64, 65, 127, 128, 1 << 16, 1 << 32, math.MaxInt - 1, math.MaxInt} {
		for _, mask := range []int{math.MinInt, -1, 0, 1, 65535, 65536, math.MaxInt} {
			if got := Check(api.Shape{Slots: slots, Mask: mask}); got != api.ErrShape {
				t.Errorf("Check(%d slots, mask %d) = %d, want ErrShape", slots, mask, got)
			}
		}
	}
}

// TestAll: promises 3.1 to 3.5, of every shape that may be.
func TestAll(t *testing.T) {
	count := 0
	each(func(x api.Shape, letters string) {
		count++
		if code := Check(x); code != api.OK {
			t.Errorf("Check(%v) = %d", x, code)
		}
		if got := Print(x); got != letters {
			t.Errorf("Print(%v) = %q, want %q", x, got, letters)
		}
		mustBe(t, letters, x)
		if got, want := Pointers(x), strings.Count(letters, "p"); got != want {
			t.Errorf("Pointers(%v) = %d, want %d", x, got, want)
		}
		for slot := -2; slot <= 18; slot++ {
			want := slot >= 0 && slot < x.Slots && letters[slot] == 'p'
			if got := Pointer(x, slot); got != want {
				t.Errorf("Pointer(%v, %d) = %v", x, slot, got)
			}
		}
		head := int64(32*x.Mask + x.Slots)
		if got := Head(x); got != head {
			t.Errorf("Head(%v) = %d, want %d", x, got, head)
		}
		if got, code := Of(head); got != x || code != api.OK {
			t.Errorf("Of(%d) = %v, %d, want %v", head, got, code, x)
		}
	})
	if count != 1<<17-1 {
		t.Errorf("%d shapes", count)
	}
}

// TestPrint: promise 3.3, shapes of no slots, of one, and of MaxSlots.
func TestPrint(t *testing.T) {
	for want, x := range map[string]api.Shape{
		".":                {},
		"i":                {Slots: 1},
		"p":                {Slots: 1, Mask: 1},
		"pii":              {Slots: 3, Mask: 1},
		"iip":              {Slots: 3, Mask: 4},
		"iiiiiiiiiiiiiiii": {Slots: 16},
		"pppppppppppppppp": {Slots: 16, Mask: 65535},
		"piiiiiiiiiiiiiip": {Slots: 16, Mask: 32769},
		"iiiiiiiipiiiiiii": {Slots: 16, Mask: 256},
		"iiiiiiiiiiiiiip":  {Slots: 15, Mask: 16384},
		"ppppppppppppppi":  {Slots: 15, Mask: 16383},
	} {
		if got := Print(x); got != want {
			t.Errorf("Print(%v) = %q, want %q", x, got, want)
		}
	}
}

// TestPointerOutside: promise 3.3, slots that are not there hold none.
func TestPointerOutside(t *testing.T) {
	for slots := 0; slots <= 16; slots++ {
		x := api.Shape{Slots: slots, Mask: 1<<slots - 1}
		for _, slot := range []int{math.MinInt, math.MinInt + 1, -1 << 32, -64, -16, -1, slots, slots + 1, 16, 17, 32, 63, 64, 65, 1 << 32, math.MaxInt - 1, math.MaxInt} {
			if Pointer(x, slot) {
				t.Errorf("Pointer(%v, %d)", x, slot)
			}
		}
		if slots > 0 && (!Pointer(x, 0) || !Pointer(x, slots-1)) {
			t.Errorf("the first and the last slot of %v", x)
		}
		if got := Pointers(x); got != slots {
			t.Errorf("Pointers(%v) = %d", x, got)
		}
		if got := Pointers(api.Shape{Slots: slots}); got != 0 {
			t.Errorf("Pointers of %d numbers = %d", slots, got)
		}
	}
}

// TestHead: promise 3.4, the least and the greatest shape.
func TestHead(t *testing.T) {
	for want, x := range map[int64]api.Shape{
		0:            {},
		1:            {Slots: 1},
		33:           {Slots: 1, Mask: 1},
		16:           {Slots: 16},
		greatestHead: {Slots: 16, Mask: 65535},
	} {
		if got := Head(x); got != want {
			t.Errorf("Head(%v) = %d, want %d", x, got, want)
		}
	}
}

// mustHeadNone asks for ErrShape at a head, and the zero shape beside it (R2).
func mustHeadNone(t *testing.T, head int64) {
	t.Helper()
	if got, code := Of(head); got != (api.Shape{}) || code != api.ErrShape {
		t.Errorf("Of(%d) = %v, %d, want ErrShape", head, got, code)
	}
}

// TestOf: promise 3.4, every head up to far behind the greatest: it is a shape's just if a shape has it.
func TestOf(t *testing.T) {
	shapes := map[int64]api.Shape{}
	each(func(x api.Shape, _ string) { shapes[int64(32*x.Mask+x.Slots)] = x })
	if len(shapes) != 1<<17-1 {
		t.Errorf("%d heads", len(shapes))
	}
	for head := int64(-5000); head <= 2*greatestHead+5000; head++ {
		x, is := shapes[head]
		if !is {
			mustHeadNone(t, head)
			continue
		}
		if got, code := Of(head); got != x || code != api.OK {
			t.Errorf("Of(%d) = %v, %d, want %v", head, got, code, x)
		}
	}
}

// TestOfRefuses: promise 3.4, heads below 0, too great ones, and those whose Slots or Mask may not be.
func TestOfRefuses(t *testing.T) {
	for _, head := range []int64{
		-1, -31, -32, -33, -195, -greatestHead, 17, 31, 32, 65, 97, 32*4 + 2, 32*65535 + 15, 32*65535 + 17, 32*65536 + 16,
		greatestHead - 1, greatestHead + 1, math.MinInt32, math.MaxInt32, math.MinInt64, math.MinInt64 + 1, math.MaxInt64 - 1, math.MaxInt64,
	} {
		mustHeadNone(t, head)
	}
	// Bits far up are seen, too: a head is refused that has a good one's lower half.
	for bit := 21; bit < 63; bit++ {
		for _, low := range []int64{0, 1, 16, 195, greatestHead} {
			if high := int64(1) << bit; high > greatestHead {
				mustHeadNone(t, high+low)
				mustHeadNone(t, low-high)
				mustHeadNone(t, math.MinInt64+low)
			}
		}
	}
}

// TestThereAndBack: promise 3.5, from texts: what is read is written as it was, so no two texts are one shape.
func TestThereAndBack(t *testing.T) {
	seen := map[api.Shape]string{}
	var longer func(s string)
	longer = func(s string) {
		x, code := Parse(s)
		if code == api.OK {
			if Print(x) != s || Check(x) != api.OK {
				t.Errorf("Parse(%q) = %v, printed %q", s, x, Print(x))
			}
			if other, is := seen[x]; is {
				t.Errorf("%q and %q are %v", other, s, x)
			}
			seen[x] = s
		}
		if len(s) < 8 {
			for _, letter := range []string{"i", "p", ".", "I"} {
				longer(s + letter)
			}
		}
	}
	longer("")
	if len(seen) != 1<<9-1 {
		t.Errorf("%d texts are shapes", len(seen))
	}
}

// TestNeverPanics: P0; of shapes that may not be nothing is promised, but every call ends.
func TestNeverPanics(t *testing.T) {
	for _, slots := range []int{math.MinInt, -17, -1, 0, 3, 16, 17, 64, 1 << 40, math.MaxInt} {
		for _, mask := range []int{math.MinInt, -1, 0, 7, 8, 65535, 65536, 1 << 40, math.MaxInt} {
			x := api.Shape{Slots: slots, Mask: mask}
			Print(x)
			Pointers(x)
			Head(x)
			for _, slot := range []int{math.MinInt, -1, 0, 2, 15, 16, 63, 64, math.MaxInt} {
				Pointer(x, slot)
			}
		}
	}
}
