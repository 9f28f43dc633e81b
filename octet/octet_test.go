package octet

import "testing"

func TestPutAndNumber(t *testing.T) {
	for _, c := range []struct {
		width   int
		numbers []uint64
		want    string
	}{
		{2, nil, ""},
		{1, []uint64{0, 255, 256}, "\x00\xff\x00"},
		{2, []uint64{258, 9999}, "\x01\x02\x27\x0f"},
		{8, []uint64{1<<64 - 1}, "\xff\xff\xff\xff\xff\xff\xff\xff"},
	} {
		if got := Put(c.width, c.numbers...); got != c.want {
			t.Errorf("Put(%d, %v) = %x, not %x", c.width, c.numbers, got, c.want)
		}
	}
	for _, n := range []uint64{0, 1, 255, 256, 1<<63 + 77, 1<<64 - 1} {
		if got := Number(Put(8, n)); got != n {
			t.Errorf("Number of Put of %d is %d", n, got)
		}
	}
}

func TestWholeWantsAllBytesAndNoMore(t *testing.T) {
	for s, want := range map[string]bool{"": false, "a": false, "ab": false, "abc": true, "abcd": false} {
		first, second := "", uint64(0)
		got := Whole(s, func(r *Reader) {
			first = r.Take(1)
			second = r.Number(2)
		})
		if got != want {
			t.Errorf("Whole of %q is %v", s, got)
		}
		if want && (first != "a" || second != 'b'<<8|'c') {
			t.Errorf("of %q: %q and %d", s, first, second)
		}
	}
}

func TestWholeLetsOtherPanicsThrough(t *testing.T) {
	defer func() {
		if got := recover(); got != "other" {
			t.Errorf("recovered %v", got)
		}
	}()
	Whole("abc", func(r *Reader) { panic("other") })
	t.Error("it went on")
}
