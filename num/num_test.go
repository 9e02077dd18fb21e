package num

import (
	"strconv"
	"testing"

	"ladderback/api"
)

const least, most = -1 << 63, 1<<63 - 1

var numbers = []int{0, 1, -1, 9, 10, -10, 99, 100, 12345, 65535, -32768, 1 << 40, least, least + 1, most}

func TestNumbers(t *testing.T) {
	for _, n := range numbers {
		if Print(n) != strconv.Itoa(n) {
			t.Error(n)
		}
		if got, ok := Parse(Print(n)); got != n || !ok {
			t.Error("back", n)
		}
	}
	wrong := []string{"", "-", "-0", "00", "01", "+1", " 1", "1 ", "1a", "--1", "9223372036854775808", "-9223372036854775809", "18446744073709551617", "99999999999999999999", "999999999999999999999999", "1_0", "\u0661"}
	for _, s := range wrong {
		if n, ok := Parse(s); n != 0 || ok {
			t.Error(s)
		}
	}
}

func TestLiterals(t *testing.T) {
	rows := []struct {
		t, v int
		s    string
	}{{api.Int, -5, "INT#-5"}, {api.Time, 1500, "T#1500ms"}, {api.Time, least, "T#-9223372036854775808ms"}, {api.Bool, 1, "TRUE"}, {api.Bool, 0, "FALSE"}, {api.Dint, -1 << 31, "DINT#-2147483648"}, {api.Word, 65535, "WORD#65535"}, {api.Dword, 1<<32 - 1, "DWORD#4294967295"}, {api.Int, 0, "INT#0"}}
	for _, r := range rows {
		if Literal(r.t, r.v) != r.s {
			t.Error(r, Literal(r.t, r.v))
		}
		if k, v, ok := Value(r.s); k != r.t || v != r.v || !ok {
			t.Error("back", r)
		}
	}
	for _, r := range [][2]int{{api.Bool, 2}, {api.Int, 32768}, {0, 0}, {7, 1}, {api.Word, -1}} {
		if Literal(r[0], r[1]) != "" {
			t.Error(r)
		}
	}
	for _, s := range []string{"", "INT#40000", "BOOL#1", "TIME#5", "T#5", "T#ms", "T#5msms", "INT#", "INT", "INT#05", "INT#-0", "true", "WORD#-1", "#5", "INT#5#", "INT##5", "REAL#1"} {
		if k, v, ok := Value(s); k != 0 || v != 0 || ok {
			t.Error(s)
		}
	}
}

func TestUnlikeTexts(t *testing.T) {
	met := map[string][2]int{}
	for k := 0; k < 8; k++ {
		for v := -300; v < 300; v++ {
			s := Literal(k, v)
			if s == "" {
				continue
			}
			if was, ok := met[s]; ok {
				t.Error(s, was)
			}
			met[s] = [2]int{k, v}
			if a, b, ok := Value(s); a != k || b != v || !ok {
				t.Error(s)
			}
		}
	}
}
