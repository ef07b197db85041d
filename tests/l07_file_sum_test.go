package tests

import (
	"bytes"
	"hash/crc32"
	"slices"
	"strings"
	"testing"

	"loop.example/g00002/impl"
)

// modelSum does what chapter 8 says, bit by bit.
func modelSum(data []byte) uint32 {
	r := uint32(0xFFFFFFFF)
	for _, b := range data {
		r ^= uint32(b)
		for range 8 {
			if r%2 == 1 {
				r = r/2 ^ 0xEDB88320
			} else {
				r /= 2
			}
		}
	}
	return 0xFFFFFFFF - r
}

// checkSum holds a sum against the words of the chapter and against the library's.
func checkSum(t *testing.T, data []byte) {
	t.Helper()
	if got, want := impl.Crc32(data), modelSum(data); got != want || got != crc32.ChecksumIEEE(data) {
		t.Errorf("Crc32 of %d bytes %.40x is %08X, want %08X", len(data), data, got, want)
	}
}

func TestCrc32Known(t *testing.T) {
	rising := make([]byte, 32)
	for i := range rising {
		rising[i] = byte(i)
	}
	for _, c := range []struct {
		data string
		want uint32
	}{
		{"", 0},
		{"\x00", 0xD202EF8D},
		{"\xff", 0xFF000000},
		{"a", 0xE8B7BE43},
		{"abc", 0x352441C2},
		{"message digest", 0x20159D7F},
		{"123456789", 0xCBF43926},
		{"abcdefghijklmnopqrstuvwxyz", 0x4C2750BD},
		{"The quick brown fox jumps over the lazy dog", 0x414FA339},
		{strings.Repeat("\x00", 4), 0x2144DF1C},
		{strings.Repeat("\xff", 4), 0xFFFFFFFF},
		{strings.Repeat("\x00", 32), 0x190A55AD},
		{strings.Repeat("\xff", 32), 0xFF6CAB0B},
		{string(rising), 0x91267E8A},
	} {
		if got := impl.Crc32([]byte(c.data)); got != c.want {
			t.Errorf("Crc32(%q) is %08X, want %08X", c.data, got, c.want)
		}
	}
	if impl.Crc32(nil) != 0 || impl.Crc32([]byte{}) != 0 {
		t.Error("the sum of no byte isn't 0")
	}
}

func TestCrc32OfEachByte(t *testing.T) {
	for a := range 256 {
		checkSum(t, []byte{byte(a)})
		for b := range 256 {
			checkSum(t, []byte{byte(a), byte(b)})
		}
	}
}

func TestCrc32OfLongTexts(t *testing.T) {
	var data []byte
	for _, word := range words(30000) {
		data = append(data, byte(word>>16), byte(word>>24), byte(word>>32))
	}
	for _, length := range []int{3, 7, 8, 9, 255, 256, 257, 4095, 65535, 65536, 65537, len(data)} {
		checkSum(t, data[:length])
		checkSum(t, data[len(data)-length:])
		checkSum(t, bytes.Repeat([]byte{byte(length)}, length))
	}
	for length := range 200 {
		checkSum(t, data[length:2*length])
	}
}

// A file with its sum behind it has the same sum whatever it is: no byte of the sum is lost.
func TestCrc32OfAFileWithItsSum(t *testing.T) {
	for _, text := range []string{"", "a", "chunk-01", strings.Repeat("xyz", 1000)} {
		if got := impl.Crc32(withSum([]byte(text))); got != 0x2144DF1C {
			t.Errorf("%.20q with its sum has the sum %08X", text, got)
		}
	}
}

func TestCrc32LeavesItsArgument(t *testing.T) {
	whole := []byte("the first and what lies behind it")
	was := slices.Clone(whole)
	impl.Crc32(whole[:9])
	if !slices.Equal(whole, was) {
		t.Errorf("Crc32 has made %q of %q", whole, was)
	}
}
