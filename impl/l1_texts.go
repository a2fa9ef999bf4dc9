package impl

// MaxText is the maximum number of bytes of a text.
const MaxText = 20000

// lineEnd is the only byte outside of 32..126 that a text may have.
const lineEnd = 10

// plainByte reports whether a byte may stand in a line.
func plainByte(b byte) bool {
	return b >= 32 && b <= 126
}

// plainLine reports whether all bytes of a line may stand in one, whatever its length.
func plainLine(line string) bool {
	for at := range len(line) {
		if !plainByte(line[at]) {
			return false
		}
	}
	return true
}

// lineStarts is the index of the lines of a text: 0 and the place behind every line end, in order.
// The last one is so the end of the text exactly if nothing stands behind the last line end.
func lineStarts(s string) []int {
	starts := []int{0}
	for at := range len(s) {
		if s[at] == lineEnd {
			starts = append(starts, at+1)
		}
	}
	return starts
}

// TextValid reports whether a text has at most MaxText bytes, each of which is a line end (10) or in 32..126.
func TextValid(s string) bool {
	if len(s) > MaxText {
		return false
	}
	for at := range len(s) {
		if s[at] != lineEnd && !plainByte(s[at]) {
			return false
		}
	}
	return true
}

// LinesOf returns the lines of a valid text: what stands before every line end, and, if anything stands behind the last one, that; nil for other texts.
func LinesOf(s string) []string {
	if !TextValid(s) {
		return nil
	}
	starts := lineStarts(s)
	last := len(starts) - 1
	var lines []string
	for k := range last {
		lines = append(lines, s[starts[k]:starts[k+1]-1])
	}
	if starts[last] < len(s) {
		lines = append(lines, s[starts[last]:])
	}
	return lines
}

// LinesText returns the text in which a line end stands behind every one of lines, and true; "" and false if a line has a line end, or the text is not valid.
func LinesText(list []string) (string, bool) {
	var text []byte
	for _, line := range list {
		// The room is checked before the line is copied, so that no list needs more memory than a text.
		if len(line) >= MaxText-len(text) || !plainLine(line) {
			return "", false
		}
		text = append(text, line...)
		text = append(text, lineEnd)
	}
	return string(text), true
}

// PlaceOf returns the line and the column, both from 0 on, of a place in 0..n of a valid text of n bytes: how many line ends are before it, and how many bytes are between the last of these, or the beginning, and it; -1 and -1 for other arguments.
func PlaceOf(s string, at int) (int, int) {
	if at < 0 || at > len(s) || !TextValid(s) {
		return -1, -1
	}
	starts := lineStarts(s)
	line := len(starts) - 1
	for starts[line] > at {
		line--
	}
	return line, at - starts[line]
}
