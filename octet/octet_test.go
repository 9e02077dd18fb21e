package octet

import (
	"bytes"
	"strings"
	"testing"
)

func TestPut(t *testing.T) {
	if !bytes.Equal(Put(nil, 2, 258), []byte{2, 1}) {
		t.Error("example")
	}
	if len(Put(nil, -3, 5)) != 0 || len(Put(nil, 99, -1)) != 8 || !bytes.Equal(Put([]byte{9}, 3, -2), []byte{9, 254, 255, 255}) {
		t.Error("many")
	}
	room := make([]byte, 1, 10)
	Put(room, 4, -1)
	Text(room, "abc")
	if !bytes.Equal(room[:10], make([]byte, 10)) {
		t.Error("room behind was changed")
	}
	got := Put(room, 0, 1)
	got[0] = 7
	if room[0] != 0 {
		t.Error("shared")
	}
}

func TestText(t *testing.T) {
	if !bytes.Equal(Text([]byte{1}, "ab"), []byte{1, 2, 'a', 'b'}) || !bytes.Equal(Text(nil, ""), []byte{0}) {
		t.Error("text")
	}
	long := strings.Repeat("x", 300)
	if got := Text(nil, long); len(got) != 256 || got[0] != 255 {
		t.Error("long")
	}
}

func TestReader(t *testing.T) {
	given := []byte{1, 2, 3, 255, 255}
	r := New(given)
	given[0] = 77
	if r.Num(2) != 513 || r.At() != 2 || r.Left() != 3 || r.Num(0) != 0 || r.Num(-1) != 0 || r.Bad() {
		t.Error("num")
	}
	if r.Num(4) != 0 || !r.Bad() || r.Left() != 0 || r.At() != 2 {
		t.Error("short")
	}
	if r.Num(1) != 0 || len(r.Take(1)) != 0 || r.Text() != "" || r.Num(0) != 0 || r.At() != 2 {
		t.Error("a bad one reads on")
	}
	if r := New([]byte{255, 255, 255, 255, 255, 255, 255, 255}); r.Num(99) != -1 || r.Left() != 0 {
		t.Error("eight bytes have a sign")
	}
	if r := New([]byte{255, 255, 255, 255, 255, 255, 255}); r.Num(7) != 1<<56-1 {
		t.Error("seven have none")
	}
	if r := New([]byte{1, 2}); len(r.Take(-1)) != 0 || !r.Bad() {
		t.Error("take below 0")
	}
	r = New([]byte{5, 6})
	got := r.Take(2)
	if !bytes.Equal(got, []byte{5, 6}) || r.Take(0) != nil && len(r.Take(0)) != 0 || r.Bad() {
		t.Error("take")
	}
	if r := New([]byte{3, 'a', 'b'}); r.Text() != "" || !r.Bad() {
		t.Error("text short")
	}
	if r := New([]byte{2, 'a', 'b', 9}); r.Text() != "ab" || r.At() != 3 {
		t.Error("text")
	}
}

func TestNilReader(t *testing.T) {
	var r *Reader
	if r.Num(1) != 0 || len(r.Take(1)) != 0 || r.Text() != "" || r.Left() != 0 || r.At() != 0 || !r.Bad() {
		t.Error("nil")
	}
}

func TestThereAndBack(t *testing.T) {
	nums := []int{0, 1, -1, 255, 256, 65535, -1 << 63, 1<<63 - 1}
	var b []byte
	for _, n := range nums {
		for many := 1; many <= 8; many++ {
			b = Put(b, many, n)
		}
		b = Text(b, strings.Repeat("y", n&255))
	}
	r := New(append(b, 1, 2, 3))
	for _, n := range nums {
		for many := 1; many <= 8; many++ {
			want := n
			if many < 8 {
				want = n & (1<<(8*many) - 1)
			}
			if got := r.Num(many); got != want {
				t.Error(n, many, got)
			}
		}
		if len(r.Text()) != n&255 {
			t.Error("text", n)
		}
	}
	if r.Left() != 3 || r.Bad() {
		t.Error("left")
	}
}
