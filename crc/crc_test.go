package crc

import (
	"hash/crc32"
	"testing"
)

func slow(state uint32, c byte) uint32 {
	state ^= uint32(c)
	for i := 0; i < 8; i++ {
		low := state & 1
		state >>= 1
		if low == 1 {
			state ^= 0xEDB88320
		}
	}
	return state
}

func text(n int) []byte {
	b := make([]byte, n)
	x := uint32(n)*2654435761 + 1
	for i := range b {
		x = x*1664525 + 1013904223
		b[i] = byte(x >> 24)
	}
	return b
}

func TestNext(t *testing.T) {
	for _, s := range []uint32{0, 1, Start, 0x80000000, 0xEDB88320, 12345678} {
		for c := 0; c < 256; c++ {
			if Next(s, byte(c)) != slow(s, byte(c)) {
				t.Fatal(s, c)
			}
		}
	}
}

func TestOf(t *testing.T) {
	if Of([]byte("123456789")) != 0xCBF43926 || Of(nil) != 0 || Over(77, nil) != 77 {
		t.Error("examples")
	}
	for n := 0; n < 300; n += 7 {
		b := text(n)
		if Of(b) != crc32.ChecksumIEEE(b) {
			t.Error(n)
		}
		for k := 0; k <= n; k += 5 {
			if Over(Over(Start, b[:k]), b[k:]) != Over(Start, b) {
				t.Error("parts", n, k)
			}
		}
	}
}

func TestOneByteChanged(t *testing.T) {
	b := text(40)
	was := Of(b)
	for i := range b {
		for x := 1; x < 256; x++ {
			b[i] ^= byte(x)
			if Of(b) == was {
				t.Fatal(i, x)
			}
			b[i] ^= byte(x)
		}
	}
}
