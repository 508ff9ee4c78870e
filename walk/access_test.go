package walk_test

import (
	"strings"
	"testing"
)

// accesses are the words of loads and stores.
func accesses() []string { return []string{"load", "ownload", "store", "ownstore"} }

// meeting is what is left of a register of references, one of numbers or none, and N.
type meeting struct {
	b int64
	c string
	n int64
	// at is the word that is met; 0, if there is none.
	at int64
}

// TestMeetings holds which word a load or a store meets, of those from 1 to 5, of which two are made by the block itself; and EndFault, where there is none. (P10.1)
func TestMeetings(t *testing.T) {
	const least, most = -1 << 63, 1<<63 - 1
	for _, m := range []meeting{
		// C of -1.
		{1, "", 0, 1}, {2, "", 0, 2}, {3, "", 0, 3}, {4, "", 0, 4}, {5, "", 0, 5}, {6, "", 0, 0}, {0, "", 0, 0}, {-1, "", 0, 0}, {-5, "", 0, 0}, {least, "", 0, 0}, {most, "", 0, 0}, {1 << 32, "", 0, 0}, {1<<32 + 1, "", 0, 0},
		{0, "", 1, 1}, {0, "", 5, 5}, {0, "", 6, 0}, {0, "", 64, 0}, {1, "", 1, 2}, {1, "", 4, 5}, {1, "", 5, 0}, {-1, "", 1, 0}, {-1, "", 2, 1}, {-59, "", 64, 5}, {-60, "", 64, 4}, {-58, "", 64, 0}, {-64, "", 64, 0}, {most, "", 1, 0}, {most, "", 64, 0}, {least, "", 64, 0},
		// C a register.
		{1, "0", 0, 1}, {1, "1", 0, 2}, {1, "4", 0, 5}, {1, "5", 0, 0}, {1, "-1", 0, 0}, {1, "-2", 0, 0}, {5, "-4", 0, 1}, {5, "-5", 0, 0}, {0, "0", 0, 0}, {0, "3", 0, 3}, {0, "-1", 0, 0}, {-1, "2", 0, 1}, {1, "1", 1, 3}, {1, "2", 3, 0}, {2, "-64", 64, 2}, {1, "-1", 1, 1}, {1, "9223372036854775807", 0, 0}, {1, "-9223372036854775808", 0, 0},
		// A sum that wraps round.
		{most, "-9223372036854775808", 2, 1}, {most, "-9223372036854775804", 0, 3}, {most, "-9223372036854775808", 1, 0}, {most, "9223372036854775807", 3, 1}, {most, "9223372036854775807", 7, 5}, {most, "9223372036854775807", 2, 0}, {most, "9223372036854775807", 8, 0}, {least, "-9223372036854775808", 0, 0}, {least, "-9223372036854775808", 3, 3}, {least, "-9223372036854775805", 0, 3}, {least, "-9223372036854775807", 0, 1}, {-1, "-9223372036854775808", 64, 0},
	} {
		testMeeting(t, m)
	}
}

func testMeeting(t *testing.T, m meeting) {
	t.Helper()
	c, set := "-", ""
	if m.c != "" {
		c, set = "r1", "const r1 "+m.c+"/"
	}
	for _, kind := range accesses() {
		text := "begin/new r4 2 0/const r0 1/" + reference("r5", m.b)
		// Each word has ten times its number.
		for w := range int64(5) {
			text += "shared r4 1/const r0 " + number((w+1)*10) + "/store r0 r4 - " + number(w) + "/"
		}
		text += "const r0 7/" + set + kind + " r0 r5 " + c + " " + number(m.n) + "/print r0/"
		for w := range int64(5) {
			text += "shared r4 1/load r0 r4 - " + number(w) + "/print r0/"
		}
		want := "fault"
		if m.at > 0 {
			want = toldOf(kind, m.at)
		}
		if strings.HasPrefix(kind, "own") && 0 < m.at && m.at <= 3 {
			want += " strange"
		}
		testRows(t, read(t, 3, text+"end/halt"), row{"0*9", want})
	}
}

// toldOf is what the thread tells that a load or a store meets this word.
func toldOf(kind string, at int64) string {
	l := []string{"10", "20", "30", "40", "50"}
	of := l[at-1]
	if strings.HasSuffix(kind, "store") {
		of, l[at-1] = "7", "7"
	}
	return of + " " + strings.Join(l, " ") + " done"
}
