package drive_test

import (
	"fmt"
	"strings"
	"testing"
)

// T2: which rows of bytes are numbers.
func TestNumbers(t *testing.T) {
	right := map[string]bool{"0": true, "1": true, "7": true, "9": true, "10": true, "99": true, "100": true, "12345": true, "99999": true, "100000": true, "123456": true, "900000": true, "999998": true, "999999": true}
	wrong := []string{
		"", " ", "00", "000", "01", "07", "0000000", "0000001", "000007", "0100", "09999", "099999", "0999999",
		"1000000", "1000001", "9999999", "10000000", "2147483647", "2147483648", "4294967296", "4294967303", "9223372036854775807", "9223372036854775808", "18446744073709551616", "18446744073709551623",
		"-1", "-0", "-7", "-99", "-999999", "+1", "+0", "+7", "--7", "7-", "7+",
		" 7", "  7", "7 ", "7  ", " 7 ", "7 7", "1 000", "100 ", " 100", "99 x", "x 99", "\t7", "7\t", "7\r", "\r7", "7\v", "7\x00", "\x007", "7\u00a0",
		"x", "7x", "x7", "7a", "a", "1a1", "7L", "0x7", "0b1", "0o7", "x10", "1_0", "1_000", "_1", "1_", "1e3", "7.", "7.0", ".7", "7,0", "1,000", "'7'", "\"7\"", "(7)", "7;", "7#", "#7", "/", ":", "1/1", "9:", "a9", "seven", "NaN", "Inf", "inf", "nil",
		"\u0667", "\u0967", "\uff17", "7\u0667", "\xff", "7\xff", "\xb7", "\u00b2", "\u2460",
	}
	for _, digits := range []string{"0", "1", "9"} {
		for _, n := range []int{7, 8, 19, 20, 30, 1000, 1000000} {
			wrong = append(wrong, strings.Repeat(digits, n))
		}
	}
	for n := range 100 {
		right[fmt.Sprint(n*10101)] = true
	}
	for text := range right {
		holdNumber(t, text, true)
	}
	for _, text := range wrong {
		holdNumber(t, text, false)
	}
	for b := range 256 {
		one := string([]byte{byte(b)})
		if is := one >= "0" && one <= "9"; one != "\n" {
			holdNumber(t, one, is)
			holdNumber(t, one+"5", is && one != "0")
			holdNumber(t, "5"+one, is)
			holdNumber(t, "5"+one+"5", is)
			holdNumber(t, "12345"+one, is)
			holdNumber(t, "99999"+one+"9", false)
		}
	}
}

// holdNumber holds that a text is a number, or none, for all words that have one, with units and without.
func holdNumber(t *testing.T, text string, is bool) {
	t.Helper()
	for _, ahead := range []string{"", main7 + "\n", main7 + "\nlink 100\n"} {
		answer := agrees(t, ahead+"link "+text+"\nrun "+text+"\nmean "+text)
		l := strings.Split(answer, "\n")
		for _, line := range l[len(l)-4 : len(l)-1] {
			if (line == "?") == is {
				t.Errorf("%s behind %q: %s", short(text), ahead, short(answer))
			}
		}
	}
}

// T2: any other line.
func TestOtherLines(t *testing.T) {
	other := []string{
		"", " ", "  ", "?", "x", "unit", "link", "run", "mean", "unit\t", "link\t7", "run\t7", "mean\t7", "unit:", "link:7", "run=7", "mean,7",
		"Unit ", "UNIT ", "Link 7", "LINK 7", "Run 7", "RUN 7", "rUn 7", "Mean 7", "MEAN 7", "meaN 7",
		" unit ", " link 7", " run 7", " mean 7", "  run 7", "\trun 7", "\x00run 7", "#run 7", "run  7", "link  7", "mean  7", "run 7 ", "run ", "link ", "mean ",
		"units ", "uni ", "nit ", "unitt ", "links 7", "lin 7", "ink 7", "runs 7", "ru 7", "un 7", "means 7", "mea 7", "ean 7", "rung 7", "unlink 7", "rerun 7", "run7", "link100", "mean9", "unitint main(){return 7;}",
		"7", "0", "7 run", "7 7", "exit 7", "quit", "help", "help 7", "bad 7", "fuel 7", "none 7", "linked 7", "int main(){return 7;}", "extern int f();",
		"link run 7", "run run 7", "run link 7", "mean unit ", "run unit ", "unit\x00int main(){return 7;}", "\xffrun 7", "r\u00fan 7", "run\u00a07", "run\u20037", "\ufeffrun 7", "\u0440un 7",
		"run 7\x0brun 7", "run 7\rrun 7", "link 100;run 7", "link 100 run 7",
	}
	for _, line := range other {
		talk(t, line, "?")
		// It changes nothing.
		talk(t, line, "?", main7, "unit 0", line, "?", "run 9", "none", "link 100", "linked 0", line, "?", "run 99", "exit 7", "mean 9", "exit 7", line, "?", "unit int v=1;", "unit 1")
	}
	talk(t, other[0], "?", other[1], "?", other[2], "?", other[3], "?")
	for _, text := range []string{strings.Repeat("x", 1000000), strings.Repeat(" ", 1000000), "run " + strings.Repeat(" ", 1000000), strings.Repeat("run ", 100000), "unit" + strings.Repeat("t", 1000000) + " 7"} {
		talk(t, text, "?", "run 7", "none")
	}
}
