package tests

import (
	"fmt"
	"slices"
	"strings"
	"testing"

	"loop.example/g00931/impl"
)

// kindSigns are the characters of the kinds of breaks, as chapter 5 words it.
var kindSigns = map[int64]string{impl.BreakNone: "+", impl.BreakUpright: "|", impl.BreakLevel: "-"}

// onEdge reports whether a point of a size is a border point.
func onEdge(w, h int64, at impl.Point) bool {
	return at.X == 0 || at.Y == 0 || at.X == 2*w || at.Y == 2*h
}

// picture draws a panel as chapter 5 words it, place by place, where marks tell the characters of some points.
func picture(p impl.Panel, marks map[impl.Point]string) []string {
	inner := innerByOrder(p.W, p.H)
	lines := []string{}
	for y := int64(0); y <= 2*p.H; y++ {
		line := ""
		for x := int64(0); x <= 2*p.W; x++ {
			at := pt(x, y)
			switch {
			case marks[at] != "":
				line += marks[at]
			case !hasPlace(p.W, p.H, at):
				line += " "
			case onEdge(p.W, p.H, at):
				line += "."
			default:
				line += kindSigns[p.Breaks[slices.Index(inner, at)]]
			}
		}
		lines = append(lines, line)
	}
	return lines
}

// fault is what PictureFault tells.
type fault struct{ kind, line, column int64 }

func faultOf(lines []string) fault {
	kind, line, column := impl.PictureFault(lines)
	return fault{kind, line, column}
}

// faultByWords finds the first fault of a picture as chapter 5 words it: the sizes first, and then line by line
// the length, and then character by character.
func faultByWords(lines []string) fault {
	sizes := []int{3, 5, 7, 9, 11, 13, 15, 17}
	if !slices.Contains(sizes, len(lines)) || !slices.Contains(sizes, len(lines[0])) {
		return fault{kind: impl.PictureSize}
	}
	w, h := int64(len(lines[0]))/2, int64(len(lines))/2
	for y, line := range lines {
		if len(line) != len(lines[0]) {
			return fault{kind: impl.PictureLength, line: int64(y)}
		}
		for x := 0; x < len(line); x++ {
			at := pt(int64(x), int64(y))
			kind, right := int64(impl.PictureInner), "+|-"
			if !hasPlace(w, h, at) {
				kind, right = impl.PictureBlank, " "
			} else if onEdge(w, h, at) {
				kind, right = impl.PictureBorder, "."
			}
			if !slices.Contains([]byte(right), line[x]) {
				return fault{kind, int64(y), int64(x)}
			}
		}
	}
	return fault{}
}

// isFaulty holds the fault of a picture, and what ReadPicture tells of it, against the words of chapter 5.
func isFaulty(t *testing.T, lines []string, want fault) {
	t.Helper()
	name := fmt.Sprintf("%q", lines)
	if got := faultOf(lines); got != want {
		t.Errorf("PictureFault of %s: got %v, want %v", name, got, want)
	}
	p, code := impl.ReadPicture(lines)
	if want.kind == impl.PictureNone {
		if code != impl.OK || !impl.ValidPanel(p) {
			t.Errorf("ReadPicture of %s: got %v %d", name, p, code)
		}
		return
	}
	if code != impl.ErrFormat {
		t.Errorf("ReadPicture of %s: got the code %d", name, code)
	}
	isZero(t, "ReadPicture of "+name, p)
}

// changed is a picture with another character, or with several, at a place.
func changed(lines []string, x, y int, sign string) []string {
	list := slices.Clone(lines)
	list[y] = list[y][:x] + sign + list[y][x+1:]
	return list
}

// allPanels are all panels of a size.
func allPanels(w, h int64) []impl.Panel {
	list := []impl.Panel{plain(w, h)}
	for k := range list[0].Breaks {
		for _, p := range slices.Clone(list) {
			for _, kind := range []int64{impl.BreakUpright, impl.BreakLevel} {
				q := panelOf(w, h, slices.Clone(p.Breaks)...)
				q.Breaks[k] = kind
				list = append(list, q)
			}
		}
	}
	return list
}

// isLines fails the test unless the lines are those wanted, with OK.
func isLines(t *testing.T, name string, got []string, code int64, want ...string) {
	t.Helper()
	if code != impl.OK || !slices.Equal(got, want) {
		t.Errorf("%s: got %q %d, want %q", name, got, code, want)
	}
}

// noLines fails the test unless there are no lines, with the code.
func noLines(t *testing.T, name string, got []string, code, want int64) {
	t.Helper()
	if code != want || len(got) != 0 {
		t.Errorf("%s: got %q %d, want the code %d", name, got, code, want)
	}
}

func TestPictureFaultNames(t *testing.T) {
	kinds := []int64{impl.PictureNone, impl.PictureSize, impl.PictureLength, impl.PictureInner, impl.PictureBorder, impl.PictureBlank}
	same(t, "constants", kinds, []int64{0, 1, 2, 3, 4, 5})
	names := []string{"none", "size", "length", "inner", "border", "blank"}
	for k, want := range names {
		same(t, fmt.Sprint("PictureFaultName of ", k), impl.PictureFaultName(int64(k)), want)
	}
	for _, k := range append(slices.Clone(edgeNumbers), 4, 5, 6) {
		if k < 0 || k > 5 {
			same(t, fmt.Sprint("PictureFaultName of ", k), impl.PictureFaultName(k), "")
		}
	}
}

// TestPictureExample is the example of chapter 5.
func TestPictureExample(t *testing.T) {
	p, ok := impl.ReadPanel("2x1:|")
	same(t, "ReadPanel", ok, true)
	samePanel(t, "ReadPanel", p, panelOf(2, 1, impl.BreakUpright))
	lines, code := impl.PanelPicture(p)
	isLines(t, "PanelPicture", lines, code, " . . ", ". | .", " . . ")
	same(t, "PanelText", impl.PanelText(p), "2x1:|")
}

// TestPicturesWritten writes some pictures and texts out, with all kinds of characters.
func TestPicturesWritten(t *testing.T) {
	for _, c := range []struct {
		p     impl.Panel
		text  string
		lines []string
	}{
		{panelOf(1, 1), "1x1:", []string{" . ", ". .", " . "}},
		{panelOf(2, 1, 0), "2x1:+", []string{" . . ", ". + .", " . . "}},
		{panelOf(2, 1, 2), "2x1:-", []string{" . . ", ". - .", " . . "}},
		{panelOf(1, 2, 1), "1x2:|", []string{" . ", ". .", " | ", ". .", " . "}},
		{panelOf(2, 2, 0, 1, 2, 1), "2x2:+|-|", []string{" . . ", ". + .", " | - ", ". | .", " . . "}},
		{panelOf(3, 2, 0, 1, 2, 2, 1, 0, 1), "3x2:+|--|+|", []string{" . . . ", ". + | .", " - - | ", ". + | .", " . . . "}},
	} {
		lines, code := impl.PanelPicture(c.p)
		isLines(t, fmt.Sprint("PanelPicture of ", c.p), lines, code, c.lines...)
		p, code := impl.ReadPicture(c.lines)
		same(t, fmt.Sprintf("code of ReadPicture of %q", c.lines), code, int64(impl.OK))
		samePanel(t, fmt.Sprintf("ReadPicture of %q", c.lines), p, c.p)
		same(t, fmt.Sprintf("PictureFault of %q", c.lines), faultOf(c.lines), fault{})
		same(t, fmt.Sprint("PanelText of ", c.p), impl.PanelText(c.p), c.text)
		q, ok := impl.ReadPanel(c.text)
		same(t, "ReadPanel of "+c.text, ok, true)
		samePanel(t, "ReadPanel of "+c.text, q, c.p)
	}
}

// TestReadBack is P5: panels of all sizes, up to the greatest one, are read back from their pictures and texts,
// which are as chapter 5 words them.
func TestReadBack(t *testing.T) {
	for _, p := range tracePanels() {
		readBack(t, p)
	}
}

// TestReadBackAll is P5 for all panels of some sizes, of which no two have the same picture or the same text.
func TestReadBackAll(t *testing.T) {
	met := map[string]bool{}
	n := 0
	for _, s := range [][2]int64{{1, 1}, {2, 1}, {1, 2}, {3, 1}, {1, 4}, {2, 2}, {3, 2}, {2, 3}} {
		for _, p := range allPanels(s[0], s[1]) {
			readBack(t, p)
			lines, _ := impl.PanelPicture(p)
			met[impl.PanelText(p)] = true
			met[strings.Join(lines, "\n")] = true
			n += 2
		}
	}
	same(t, "different pictures and texts", len(met), n)
	same(t, "all of them", n, 2*(1+3+3+9+27+81+2187+2187))
}

func readBack(t *testing.T, p impl.Panel) {
	t.Helper()
	name := fmt.Sprint(" of ", p)
	lines, code := impl.PanelPicture(p)
	isLines(t, "PanelPicture"+name, lines, code, picture(p, nil)...)
	same(t, "PictureFault"+name, faultOf(lines), fault{})
	q, code := impl.ReadPicture(lines)
	same(t, "code of ReadPicture"+name, code, int64(impl.OK))
	samePanel(t, "ReadPicture"+name, q, p)
	text := fmt.Sprintf("%dx%d:", p.W, p.H)
	for _, kind := range p.Breaks {
		text += kindSigns[kind]
	}
	same(t, "PanelText"+name, impl.PanelText(p), text)
	q, ok := impl.ReadPanel(text)
	same(t, "ReadPanel"+name, ok, true)
	samePanel(t, "ReadPanel"+name, q, p)
}

// TestPictureSizes tries all numbers of lines and of characters of the first line, from none to more than twice
// as many as there can be. Where the first one has a right length, later lines are too long, or too short.
func TestPictureSizes(t *testing.T) {
	right := 0
	for n := range 40 {
		for m := range 40 {
			for _, other := range []int{m, m + 2, max(m-1, 0)} {
				lines := slices.Repeat([]string{strings.Repeat(" ", other)}, n)
				if n > 0 {
					lines[0] = strings.Repeat(" ", m)
				}
				isFaulty(t, lines, faultByWords(lines))
				if faultOf(lines).kind != impl.PictureSize {
					right++
				}
			}
		}
	}
	same(t, "right sizes", right, 3*8*8)
}

// TestPictureSizesWritten writes the sizes out at their limits; whatever the characters are, they come later.
func TestPictureSizesWritten(t *testing.T) {
	size := fault{kind: impl.PictureSize}
	blank := strings.Repeat(" ", 99)
	for _, c := range []struct {
		n, m int
		want fault
	}{
		{0, 0, size}, {1, 0, size}, {1, 1, size}, {1, 3, size}, {3, 1, size}, {2, 3, size}, {3, 2, size}, {3, 0, size},
		{4, 3, size}, {3, 4, size}, {4, 4, size}, {16, 17, size}, {17, 16, size}, {18, 17, size}, {17, 18, size},
		{19, 17, size}, {17, 19, size}, {19, 19, size}, {99, 3, size}, {3, 99, size},
		{3, 3, fault{impl.PictureBorder, 0, 1}}, {17, 17, fault{impl.PictureBorder, 0, 1}},
		{3, 17, fault{impl.PictureBorder, 0, 1}}, {17, 3, fault{impl.PictureBorder, 0, 1}},
	} {
		isFaulty(t, slices.Repeat([]string{blank[:c.m]}, c.n), c.want)
		if c.want == size {
			isFaulty(t, slices.Repeat([]string{strings.Repeat("x", c.m)}, c.n), c.want)
		}
	}
	isFaulty(t, nil, size)
	isFaulty(t, []string{}, size)
	isFaulty(t, []string{""}, size)
	isFaulty(t, []string{"", " . ", ". ."}, size)
	isFaulty(t, []string{" .", ". .", " . "}, size)
	isFaulty(t, slices.Repeat([]string{" . "}, 100001), size)
	isFaulty(t, []string{strings.Repeat(" .", 500000) + " ", "", ""}, size)
}

// TestPictureCharacters puts each byte at each place of a picture of each size.
func TestPictureCharacters(t *testing.T) {
	met := map[int64]int{}
	eachSize(func(w, h int64) {
		lines := picture(mixedPanel(w, h), nil)
		for y := range lines {
			for x := range len(lines[y]) {
				for sign := range 256 {
					list := changed(lines, x, y, string([]byte{byte(sign)}))
					want := fault{}
					if f := signFault(w, h, pt(int64(x), int64(y)), byte(sign)); f != impl.PictureNone {
						want = fault{f, int64(y), int64(x)}
					}
					if got := faultOf(list); got != want {
						t.Fatalf("PictureFault of %q: got %v, want %v", list, got, want)
					}
					met[want.kind]++
				}
			}
		}
	})
	// The pictures of all sizes together have 80 times 80 places.
	points, border := 0, 0
	eachSize(func(w, h int64) {
		points += len(innerByOrder(w, h))
		border += int(2 * (w + h))
	})
	same(t, "faults", met, map[int64]int{
		impl.PictureInner: 253 * points, impl.PictureBorder: 255 * border, impl.PictureBlank: 255 * (6400 - points - border),
		impl.PictureNone: 3*points + border + 6400 - points - border,
	})
}

// signFault is the fault of a character at a place of a size.
func signFault(w, h int64, at impl.Point, sign byte) int64 {
	switch {
	case !hasPlace(w, h, at):
		if sign != ' ' {
			return impl.PictureBlank
		}
	case onEdge(w, h, at):
		if sign != '.' {
			return impl.PictureBorder
		}
	case sign != '+' && sign != '|' && sign != '-':
		return impl.PictureInner
	}
	return impl.PictureNone
}

// TestPictureFaultsWritten writes faults out: one of each kind, and several in one picture, of which the first
// one in the order of the document is told.
func TestPictureFaultsWritten(t *testing.T) {
	for _, c := range []struct {
		lines string
		want  fault
	}{
		{" . . /. + ./ . . ", fault{}},
		// A wrong character at a place that is no point, at a border point and at an inner point.
		{".. . /. + ./ . . ", fault{impl.PictureBlank, 0, 0}},
		{" . . /.++ ./ . . ", fault{impl.PictureBlank, 1, 1}},
		{" . . /. + ./ . ..", fault{impl.PictureBlank, 2, 4}},
		{" + . /. + ./ . . ", fault{impl.PictureBorder, 0, 1}},
		{" . . /  + ./ . . ", fault{impl.PictureBorder, 1, 0}},
		{" . . /. + -/ . . ", fault{impl.PictureBorder, 1, 4}},
		{" . . /. + ./ . | ", fault{impl.PictureBorder, 2, 3}},
		{" . . /.   ./ . . ", fault{impl.PictureInner, 1, 2}},
		{" . . /. . ./ . . ", fault{impl.PictureInner, 1, 2}},
		{" . . /. o ./ . . ", fault{impl.PictureInner, 1, 2}},
		{" . . /. 8 ./ . . ", fault{impl.PictureInner, 1, 2}},
		{" . . /. \x00 ./ . . ", fault{impl.PictureInner, 1, 2}},
		{" . . /. \xff ./ . . ", fault{impl.PictureInner, 1, 2}},
		{" . . /. +\x80./ . . ", fault{impl.PictureBlank, 1, 3}},
		{" . . /. + ./ \xae . ", fault{impl.PictureBorder, 2, 1}},
		{" . ./. ./ . ", fault{kind: impl.PictureSize}},
		// Several in one line: the first character is told.
		{" . . /x x x/ . . ", fault{impl.PictureBorder, 1, 0}},
		{" . . /.xx x/ . . ", fault{impl.PictureBlank, 1, 1}},
		{" . . /. x x/ . . ", fault{impl.PictureInner, 1, 2}},
		{"xxxxx/xxxxx/xxxxx", fault{impl.PictureBlank, 0, 0}},
		// Several in different lines: the first line is told, whatever the columns and the kinds are.
		{" . .x/x + ./ . . ", fault{impl.PictureBlank, 0, 4}},
		{" . x /. x ./x. . ", fault{impl.PictureBorder, 0, 3}},
		{" . . /. x ./x. . ", fault{impl.PictureInner, 1, 2}},
		{" . . /. + x/xx . ", fault{impl.PictureBorder, 1, 4}},
		// Lines of a wrong length, the later one longer or shorter, and the first one longer or shorter than all others.
		{" . . /. + /. . . ", fault{impl.PictureLength, 1, 0}},
		{" . . /. + . / . . ", fault{impl.PictureLength, 1, 0}},
		{" . . /. + ./ . .", fault{impl.PictureLength, 2, 0}},
		{" . . /. + ./ . .  ", fault{impl.PictureLength, 2, 0}},
		{" . . // . . ", fault{impl.PictureLength, 1, 0}},
		{" . . /. + ./", fault{impl.PictureLength, 2, 0}},
		{" . . . /. + ./ . . ", fault{impl.PictureLength, 1, 0}},
		{" . /. + ./ . . ", fault{impl.PictureLength, 1, 0}},
		// A fault of a character ahead of a line of a wrong length, and behind it.
		{" . x /. +/ . . ", fault{impl.PictureBorder, 0, 3}},
		{" . . /. x ./ . ", fault{impl.PictureInner, 1, 2}},
		{" . . /. + x/ . . . ", fault{impl.PictureBorder, 1, 4}},
		{" . . /. + /x. . ", fault{impl.PictureLength, 1, 0}},
		{" . . /. + . /x. . ", fault{impl.PictureLength, 1, 0}},
		// In one line, the length comes before the characters.
		{" . . /xxx/ . . ", fault{impl.PictureLength, 1, 0}},
		{" . . /x + . / . . ", fault{impl.PictureLength, 1, 0}},
		{" . . /. + ./xxxxxx", fault{impl.PictureLength, 2, 0}},
		// The size comes before everything else.
		{"xxxx/. + ./ . . ", fault{kind: impl.PictureSize}},
		{"xxxxx/. + ./ . . / ", fault{kind: impl.PictureSize}},
	} {
		lines := strings.Split(c.lines, "/")
		isFaulty(t, lines, c.want)
		same(t, fmt.Sprintf("the words for %q", lines), faultByWords(lines), c.want)
	}
}

// TestPictureRunes puts runes of several bytes into a picture: each byte is a character.
func TestPictureRunes(t *testing.T) {
	lines := []string{" . . ", ". + .", " . . "}
	for _, c := range []struct {
		lines []string
		want  fault
	}{
		// As many bytes as needed: the first one is the wrong character.
		{[]string{" . . ", ". \u012b.", " . . "}, fault{impl.PictureInner, 1, 2}},
		{[]string{" . . ", ".\u0120+ .", " . . "}, fault{impl.PictureLength, 1, 0}},
		{[]string{" . . ", ".\u0120 .", " . . "}, fault{impl.PictureBlank, 1, 1}},
		{[]string{" . . ", ". + .", " . .\u0120"}, fault{impl.PictureLength, 2, 0}},
		{[]string{" . . ", ". + .", " . \u012e"}, fault{impl.PictureBorder, 2, 3}},
		{[]string{" \u202e. ", ". + .", " . . "}, fault{kind: impl.PictureSize}},
		{[]string{" \u202e ", ". + .", " . . "}, fault{impl.PictureBorder, 0, 1}},
		// As many runes as needed, but more bytes.
		{changed(lines, 2, 1, "\u012b"), fault{impl.PictureLength, 1, 0}},
		{changed(lines, 1, 2, "\u202e"), fault{impl.PictureLength, 2, 0}},
		{changed(lines, 1, 0, "\u012e"), fault{kind: impl.PictureSize}},
		{changed(lines, 1, 0, "\u202e"), fault{impl.PictureBorder, 0, 1}},
		// Bytes that are no rune.
		{changed(lines, 2, 1, "\xc4"), fault{impl.PictureInner, 1, 2}},
		{changed(lines, 2, 1, "\xc4\xab"), fault{impl.PictureLength, 1, 0}},
	} {
		isFaulty(t, c.lines, c.want)
		same(t, fmt.Sprintf("the words for %q", c.lines), faultByWords(c.lines), c.want)
	}
}

// TestPictureFaultPairs makes two places of a picture wrong: the first one of them is told.
func TestPictureFaultPairs(t *testing.T) {
	for _, s := range [][2]int64{{1, 1}, {2, 1}, {1, 2}, {2, 2}, {3, 1}} {
		lines := picture(mixedPanel(s[0], s[1]), nil)
		width := len(lines[0])
		for a := range len(lines) * width {
			for b := a + 1; b < len(lines)*width; b++ {
				for _, signs := range [][2]string{{"x", "x"}, {"x", "\xfe"}, {"\x80", "\x00"}} {
					list := changed(changed(lines, a%width, a/width, signs[0]), b%width, b/width, signs[1])
					at := pt(int64(a%width), int64(a/width))
					isFaulty(t, list, fault{signFault(s[0], s[1], at, signs[0][0]), at.Y, at.X})
				}
			}
		}
	}
}

// TestPictureFaultLengths makes one line longer or shorter, and a place of any line wrong: the length is told
// unless the place is in a line before.
func TestPictureFaultLengths(t *testing.T) {
	for _, s := range [][2]int64{{1, 1}, {2, 2}, {3, 2}} {
		lines := picture(mixedPanel(s[0], s[1]), nil)
		width := len(lines[0])
		for k := 1; k < len(lines); k++ {
			for _, line := range []string{"", " ", lines[k] + " ", lines[k] + "..", lines[k][:width-1], lines[k][:width-2], strings.Repeat(lines[k], 9)} {
				want := fault{kind: impl.PictureLength, line: int64(k)}
				list := slices.Clone(lines)
				list[k] = line
				isFaulty(t, list, want)
				for y := range list {
					for x := range len(list[y]) {
						both := changed(list, x, y, "#")
						if y < k {
							isFaulty(t, both, fault{signFault(s[0], s[1], pt(int64(x), int64(y)), '#'), int64(y), int64(x)})
						} else {
							isFaulty(t, both, want)
						}
					}
				}
			}
		}
	}
}

// TestPicturesMixed changes pictures in many ways, a few at a time, and holds what is told of them against the
// words of chapter 5; a picture without a fault is that of the panel that is read.
func TestPicturesMixed(t *testing.T) {
	met := map[int64]int{}
	seed := uint64(1)
	pick := func(n int) int {
		seed = seed*6364136223846793005 + 1442695040888963407
		return int(seed >> 33 % uint64(n))
	}
	signs := " .+|-xo8\x00\n\t\x80\xff"
	for range 60000 {
		lines := picture(mixedPanel(int64(pick(3)+1), int64(pick(3)+1)), nil)
		for range pick(4) {
			if len(lines) == 0 {
				break
			}
			y := pick(len(lines))
			x := pick(len(lines[y]) + 1)
			switch way := pick(12); {
			case way == 0:
				lines = slices.Delete(lines, y, y+1)
			case way == 1:
				lines = slices.Insert(lines, y, lines[pick(len(lines))])
			case way == 2:
				lines[y] = lines[y][:x] + signs[pick(len(signs)):][:1] + lines[y][x:]
			case way == 3:
				lines[y] = lines[y][:x]
			case way < 8 && x < len(lines[y]):
				lines = changed(lines, x, y, signs[pick(len(signs)):][:1])
			case x < len(lines[y]):
				lines = changed(lines, x, y, "+|-"[pick(3):][:1])
			}
		}
		want := faultByWords(lines)
		isFaulty(t, lines, want)
		met[want.kind]++
		if want.kind == impl.PictureNone {
			p, _ := impl.ReadPicture(lines)
			if !slices.Equal(picture(p, nil), lines) {
				t.Errorf("ReadPicture of %q: got %v", lines, p)
			}
		}
	}
	for kind := range int64(6) {
		if met[kind] < 500 {
			t.Errorf("only %d pictures have the fault %d", met[kind], kind)
		}
	}
}

// TestCurvePicture holds the pictures of all curves of panels of all sizes against the words of chapter 5.
func TestCurvePicture(t *testing.T) {
	met := map[string]int{}
	for _, p := range tracePanels() {
		curves, _ := curvesByWords(p)
		for c, list := range curves {
			marks := map[impl.Point]string{}
			for _, at := range list {
				if marks[at] == "" {
					marks[at] = "o"
				} else {
					marks[at] = "8"
				}
			}
			want := picture(p, marks)
			for _, line := range want {
				for _, sign := range strings.Split(line, "") {
					met[sign]++
				}
			}
			lines, code := impl.CurvePicture(p, int64(c))
			isLines(t, fmt.Sprint("CurvePicture ", c, " of ", p), lines, code, want...)
		}
	}
	for _, sign := range []string{" ", ".", "+", "|", "-", "o", "8"} {
		if met[sign] == 0 {
			t.Errorf("no picture has the character %q", sign)
		}
	}
}

// TestCurvePicturesWritten writes some pictures out: points that a curve visits once, twice and not at all, with
// and without a mirror there.
func TestCurvePicturesWritten(t *testing.T) {
	for _, c := range []struct {
		p     impl.Panel
		curve int64
		lines []string
	}{
		{panelOf(1, 1), 0, []string{" o ", "o o", " o "}},
		{panelOf(2, 1, 0), 0, []string{" o o ", "o 8 o", " o o "}},
		{panelOf(2, 1, 1), 0, []string{" o . ", "o o .", " o . "}},
		{panelOf(2, 1, 1), 1, []string{" . o ", ". o o", " . o "}},
		{panelOf(2, 1, 2), 0, []string{" o o ", "o 8 o", " o o "}},
		{panelOf(1, 2, 2), 1, []string{" . ", ". .", " o ", "o o", " o "}},
		{plain(2, 2), 0, []string{" o . ", "o o .", " o o ", ". o o", " . o "}},
		{plain(2, 2), 1, []string{" . o ", ". o o", " o o ", "o o .", " o . "}},
		{panelOf(2, 2, 1, 0, 0, 0), 0, []string{" o o ", "o 8 o", " 8 8 ", "o 8 o", " o o "}},
		{panelOf(2, 2, 1, 2, 2, 1), 3, []string{" . . ", ". | .", " - o ", ". o o", " . o "}},
		{panelOf(3, 1, 0, 1), 0, []string{" o o . ", "o 8 o .", " o o . "}},
		{panelOf(3, 1, 0, 1), 1, []string{" . . o ", ". + o o", " . . o "}},
	} {
		lines, code := impl.CurvePicture(c.p, c.curve)
		isLines(t, fmt.Sprint("CurvePicture ", c.curve, " of ", c.p), lines, code, c.lines...)
	}
}

// TestCurvePictureRange: curves that there are not, on both sides.
func TestCurvePictureRange(t *testing.T) {
	for _, p := range []impl.Panel{panelOf(1, 1), panelOf(2, 1, 1), plain(2, 2), mixedPanel(3, 4), plain(8, 8), smallCircles(8, 8)} {
		n, _ := impl.CountCurves(p)
		for _, k := range numbersBeside(n) {
			lines, code := impl.CurvePicture(p, k)
			noLines(t, fmt.Sprint("CurvePicture ", k, " of ", p), lines, code, impl.ErrRange)
		}
		lines, code := impl.CurvePicture(p, n-1)
		if code != impl.OK || len(lines) != int(2*p.H+1) {
			t.Errorf("CurvePicture of the last curve of %v: got %q %d", p, lines, code)
		}
	}
}

// TestLinesPicture holds the pictures of segments against the walkers along them: upwards to the right is a
// slash, downwards a backslash, whatever the breaks are.
func TestLinesPicture(t *testing.T) {
	for _, p := range walkPanels() {
		want := slices.Repeat([][]byte{nil}, int(2*p.H))
		for k, w := range walkersByOrder(p.W, p.H) {
			if k%2 == 1 {
				continue
			}
			y := min(w.At.Y, w.At.Y+w.DY)
			if int64(len(want[y])) != w.At.X {
				t.Fatalf("the segment %d of %v is not the next one of its line", k/2, p)
			}
			want[y] = append(want[y], map[int64]byte{-1: '/', 1: '\\'}[w.DY])
		}
		lines := []string{}
		for _, line := range want {
			lines = append(lines, string(line))
		}
		got, code := impl.LinesPicture(p)
		isLines(t, fmt.Sprint("LinesPicture of ", p), got, code, lines...)
	}
}

// TestLinesPicturesWritten writes some of them out, with segments of both slopes.
func TestLinesPicturesWritten(t *testing.T) {
	for _, c := range []struct {
		p     impl.Panel
		lines []string
	}{
		{panelOf(1, 1), []string{`/\`, `\/`}},
		{panelOf(2, 1, 0), []string{`/\/\`, `\/\/`}},
		{panelOf(2, 1, 1), []string{`/\/\`, `\/\/`}},
		{panelOf(1, 2, 2), []string{`/\`, `\/`, `/\`, `\/`}},
		{mixedPanel(3, 2), []string{`/\/\/\`, `\/\/\/`, `/\/\/\`, `\/\/\/`}},
		{mixedPanel(8, 1), []string{strings.Repeat(`/\`, 8), strings.Repeat(`\/`, 8)}},
	} {
		lines, code := impl.LinesPicture(c.p)
		isLines(t, fmt.Sprint("LinesPicture of ", c.p), lines, code, c.lines...)
	}
	lines, code := impl.LinesPicture(mixedPanel(8, 8))
	isLines(t, "LinesPicture of the greatest panel", lines, code, slices.Repeat([]string{strings.Repeat(`/\`, 8), strings.Repeat(`\/`, 8)}, 8)...)
}

// TestPicturesInvalidPanels: ErrInvalid comes before all other errors, and nothing with it.
func TestPicturesInvalidPanels(t *testing.T) {
	for _, p := range invalidPanels() {
		name := fmt.Sprint(" of ", p)
		lines, code := impl.PanelPicture(p)
		noLines(t, "PanelPicture"+name, lines, code, impl.ErrInvalid)
		lines, code = impl.LinesPicture(p)
		noLines(t, "LinesPicture"+name, lines, code, impl.ErrInvalid)
		for _, k := range edgeNumbers {
			lines, code = impl.CurvePicture(p, k)
			noLines(t, fmt.Sprint("CurvePicture ", k, name), lines, code, impl.ErrInvalid)
		}
		same(t, "PanelText"+name, impl.PanelText(p), "")
	}
}

// readByWords tells whether a text is that of a panel, as chapter 5 words it, and of which one.
func readByWords(s string) (impl.Panel, bool) {
	found, ok := impl.Panel{}, false
	eachSize(func(w, h int64) {
		signs, begins := strings.CutPrefix(s, fmt.Sprintf("%dx%d:", w, h))
		if !begins || len(signs) != len(innerByOrder(w, h)) || strings.Trim(signs, "+|-") != "" {
			return
		}
		found, ok = plain(w, h), true
		for k := range found.Breaks {
			found.Breaks[k] = int64(strings.Index("+|-", signs[k:k+1]))
		}
	})
	return found, ok
}

// isText holds ReadPanel of a text against the words of chapter 5, and tells whether it is that of a panel.
func isText(t *testing.T, s string) bool {
	t.Helper()
	want, is := readByWords(s)
	p, ok := impl.ReadPanel(s)
	same(t, fmt.Sprintf("ReadPanel of %q", s), ok, is)
	samePanel(t, fmt.Sprintf("ReadPanel of %q", s), p, want)
	if is {
		same(t, "PanelText again", impl.PanelText(p), s)
	}
	return is
}

// TestTextsThatAreNone writes texts out that are those of no panel.
func TestTextsThatAreNone(t *testing.T) {
	full := strings.Repeat("+", 112)
	for _, s := range []string{
		"", " ", "x", ":", "x:", "1", "1x", "1x1", "1:", "x1:", "1x:", "1:1x", "11:", "1x1x", "1:x1", "1 x1:", "1x 1:", " 1x1:", "1x1: ", "1x1 :", "1x1:\n", "1x1:\x00",
		// Missing characters, further ones, and others.
		"1x1:+", "2x1:", "2x1:||", "2x1:| ", "2x1: |", "2x1:|:", "2x1::", "2x1::|", "2x1|", "2:|", "2x:|", "x1:|", "2x1x:|", "2x1x1:|", "xx1:|", "2xx1:|",
		"2x1:x", "2x1:.", "2x1:o", "2x1:0", "2x1:1", "2x1:=", "2x1:/", "2x1:\\", "2x1:_", "2X1:|", "2*1:|", "2x1;|", "2x1=|",
		"2x2:+++", "2x2:+++++", "2x2:+++x", "2x2:x+++", "2x2:+ ++", "8x8:" + full[1:], "8x8:" + full + "+", "8x8:" + full[1:] + "x", "8x7:" + full, "8x8:",
		// Signs, leading zeros, and numbers that are not in decimal.
		"+2x1:|", "2x+1:|", "-2x1:|", "2x-1:|", "-1x1:", "1x-1:", "+1x1:", "1x+1:", "-0x1:", "02x1:|", "2x01:|", "01x1:", "1x01:", "001x1:", "00x1:",
		"2.0x1:|", "2e0x1:|", "0x2x1:|", "0b1x1:", "1_x1:", "Ix1:", "\uff11x1:", "1x\uff11:", "\u0661x1:", "2,x1:|",
		// Sizes out of range, with as many characters as there would be inner points.
		"0x0:", "0x1:", "1x0:", "0x2:", "2x0:", "9x1:++++++++", "1x9:++++++++", "9x1:", "1x9:", "9x9:" + full + full[:32], "10x1:+++++++++", "1x10:+++++++++",
		"9223372036854775807x1:", "1x9223372036854775808:", "18446744073709551617x1:", "18446744073709551618x1:|", "4294967297x1:", "257x1:", "1x257:", "258x1:|",
		// Bytes from 128 on, and runes whose last byte, or whose number without its upper bits, is a right one.
		"2x1:\xff", "2x1:\x80", "2x1:\xab", "2x1:\xfc", "3x1:\xc4\xab", "3x1:\u012b", "2x1:\u012b", "3x1:\u017c", "3x1:\u012d", "4x1:\u202b", "4x1:+\u012b", "2x1:\uff0b", "4x1:\uff0b", "\xb1x1:", "1\xf81:", "1x1\xba", "2x1:|\xff", "\xff2x1:|",
	} {
		if p, ok := impl.ReadPanel(s); ok || p.W != 0 || p.H != 0 || len(p.Breaks) != 0 {
			t.Errorf("ReadPanel of %q: got %v %v", s, p, ok)
		}
		if _, ok := readByWords(s); ok {
			t.Errorf("the words find a panel with the text %q", s)
		}
	}
}

// TestTextsChanged puts each byte at each place of some texts, instead of the one there, and between all, and
// takes one or more away.
func TestTextsChanged(t *testing.T) {
	right := 0
	count := func(s string) {
		if isText(t, s) {
			right++
		}
	}
	for _, p := range []impl.Panel{panelOf(1, 1), panelOf(2, 1, 1), panelOf(1, 3, 2, 0), mixedPanel(2, 2), mixedPanel(3, 2)} {
		s := impl.PanelText(p)
		for k := range len(s) + 1 {
			for sign := range 256 {
				one := string([]byte{byte(sign)})
				count(s[:k] + one + s[k:])
				if k < len(s) {
					count(s[:k] + one + s[k+1:])
				}
			}
			for to := k; to <= len(s); to++ {
				count(s[:k] + s[to:])
			}
		}
	}
	if right < 100 {
		t.Errorf("only %d texts are those of panels", right)
	}
}

// TestTextSizes tries all numbers of characters for sizes of 0 to 10.
func TestTextSizes(t *testing.T) {
	right := 0
	for w := range 11 {
		for h := range 11 {
			for n := range 145 {
				if isText(t, fmt.Sprintf("%dx%d:%s", w, h, strings.Repeat("-|+", 50)[:n])) {
					right++
				}
			}
		}
	}
	same(t, "right numbers", right, 64)
	same(t, "a long text", isText(t, "1x1:"+strings.Repeat("+", 1000000)), false)
	same(t, "a long number", isText(t, strings.Repeat("1", 1000000)+"x1:"), false)
}

// TestPicturesUnchanged is P1: no function of chapter 5 changes a panel or the lines of a picture, nor what lies
// behind them in memory, and all tell the same again.
func TestPicturesUnchanged(t *testing.T) {
	panels := []impl.Panel{panelOf(1, 1), mixedPanel(2, 1), mixedPanel(3, 4), mixedPanel(8, 8), smallCircles(8, 8)}
	for _, p := range append(invalidPanels(), panels...) {
		unchanged(t, p, allOfPictures)
	}
	right := picture(mixedPanel(3, 4), nil)
	for _, lines := range [][]string{nil, {}, {""}, {" . ", ". .", " . "}, right, changed(right, 3, 4, "x"), right[:8], append(right[:8:8], ".")} {
		memory := append(slices.Clone(lines), "behind", "it")
		before := slices.Clone(memory)
		given := memory[:len(lines)]
		first := readings(given)
		same(t, fmt.Sprintf("read again %q", lines), readings(given), first)
		same(t, fmt.Sprintf("memory of %q", lines), memory, before)
		same(t, fmt.Sprintf("a copy of %q", lines), readings(slices.Clone(lines)), first)
	}
	for _, s := range []string{"", "2x1:|", "2x1:", "3x2:+|--|+|", "1x1:"} {
		p, one := impl.ReadPanel(s)
		q, two := impl.ReadPanel(s)
		same(t, fmt.Sprintf("ReadPanel of %q again", s), fmt.Sprint(q, two), fmt.Sprint(p, one))
	}
}

// allOfPictures tells what the functions of chapter 5 that have a panel as an argument return for it.
func allOfPictures(p impl.Panel) []string {
	panel, one := impl.PanelPicture(p)
	lines, two := impl.LinesPicture(p)
	out := []string{fmt.Sprintf("%q %d %q %d %q", panel, one, lines, two, impl.PanelText(p))}
	for _, k := range edgeNumbers {
		curve, code := impl.CurvePicture(p, k)
		out = append(out, fmt.Sprintf("%q %d", curve, code))
	}
	return out
}

// readings tells what the functions that read a picture return for it.
func readings(lines []string) string {
	p, code := impl.ReadPicture(lines)
	return fmt.Sprint(faultOf(lines), p, code)
}

// TestPicturesNew is P1: no result shares memory with an argument or with another result.
func TestPicturesNew(t *testing.T) {
	for _, p := range []impl.Panel{panelOf(1, 1), mixedPanel(3, 4), mixedPanel(8, 8), smallCircles(8, 8)} {
		want := allOfPictures(p)
		for range 2 {
			panel, _ := impl.PanelPicture(p)
			curve, _ := impl.CurvePicture(p, 0)
			lines, _ := impl.LinesPicture(p)
			for _, list := range [][]string{panel, curve, lines} {
				for k := range list[:cap(list)] {
					list[:cap(list)][k] = "spoilt"
				}
			}
			same(t, fmt.Sprint("told again of ", p), allOfPictures(p), want)
		}
		text := impl.PanelText(p)
		lines := picture(p, nil)
		for range 2 {
			q, _ := impl.ReadPanel(text)
			r, _ := impl.ReadPicture(lines)
			samePanel(t, "ReadPanel of "+text, q, p)
			samePanel(t, "ReadPicture for "+text, r, p)
			spoil(q.Breaks)
			samePanel(t, "ReadPicture beside a spoilt panel", r, p)
			spoil(r.Breaks)
		}
	}
}
