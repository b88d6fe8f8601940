package tests

import (
	"bytes"
	"math"
	"math/big"
	"slices"
	"testing"

	"loop.example/g00062/impl"
)

// wantCrc divides: the bytes and two more that are 0, the first 16 bits turned, are a polynomial; the sum is what is left of it by that of 16 and the bits of 4129.
func wantCrc(data []byte) int64 {
	long := append(bytes.Clone(data), 0, 0)
	long[0] ^= 255
	long[1] ^= 255
	left, by := new(big.Int).SetBytes(long), big.NewInt(65536+4129)
	for left.BitLen() > 16 {
		left.Xor(left, new(big.Int).Lsh(by, uint(left.BitLen()-17)))
	}
	return left.Int64()
}

func someBytes(seed int64, n int) []byte {
	data := make([]byte, n)
	for i, b := range someNumbers(seed, n, 0, 255) {
		data[i] = byte(b)
	}
	return data
}

// withRoom lays data in a greater array whose spare room is filled with b.
func withRoom(data []byte, b byte) []byte {
	room := append(bytes.Clone(data), bytes.Repeat([]byte{b}, 64)...)
	return room[:len(data)]
}

// roomKept wants what withRoom made.
func roomKept(data []byte, kept []byte, b byte) bool {
	room := data[:len(data)+64]
	return bytes.Equal(data, kept) && bytes.Count(room[len(data):], []byte{b}) == 64
}

func TestP13Constants(t *testing.T) {
	if impl.MaxValues != 20 || impl.MaxBytes != 1000 || impl.MaxAge != 100 || impl.MaxLost != 1000000000 {
		t.Error("a limit")
	}
	codes := []int64{impl.FrShort, impl.FrStart, impl.FrCount, impl.FrSum, impl.FrTrain, impl.LkOther, impl.LkOld, impl.LkLink}
	if !slices.Equal(codes, []int64{1, 2, 3, 4, 5, 6, 7, 8}) {
		t.Error("a code", codes)
	}
}

func TestP13CrcTold(t *testing.T) {
	for _, c := range []struct {
		data []byte
		sum  int64
	}{
		{nil, 65535}, {[]byte{}, 65535}, {[]byte("A"), 47381}, {[]byte("123456789"), 10673},
		{[]byte{0}, 57840}, {[]byte{255}, 65280}, {[]byte{255, 255}, 0}, {[]byte{255, 255, 0, 0, 0}, 0}, {[]byte{0, 0}, 7439},
	} {
		if sum := impl.Crc(c.data); sum != c.sum || sum != wantCrc(c.data) {
			t.Error(c.data, sum, c.sum, wantCrc(c.data))
		}
	}
}

func TestP13Crc(t *testing.T) {
	for a := range 256 {
		for _, data := range [][]byte{{byte(a)}, {0, byte(a)}, {byte(a), 165}, {165, byte(a), 255 - byte(a)}} {
			if sum := impl.Crc(data); sum != wantCrc(data) {
				t.Fatal(data, sum)
			}
		}
	}
	for _, n := range []int{0, 1, 2, 3, 7, 46, 47, 48, 255, 256, 257, 998, 999, 1000} {
		for seed := range int64(6) {
			data := withRoom(someBytes(seed+int64(n), n), 77)
			kept := bytes.Clone(data)
			sum := impl.Crc(data)
			if sum != wantCrc(data) || sum < 0 || sum > 65535 {
				t.Fatal(n, seed, sum)
			}
			if !roomKept(data, kept, 77) {
				t.Fatal("the bytes are changed")
			}
		}
	}
	for _, n := range []int{1001, 1002, 2000, 70000} {
		if sum := impl.Crc(someBytes(1, n)); sum != -1 {
			t.Error(n, sum)
		}
		if sum := impl.Crc(make([]byte, n)); sum != -1 {
			t.Error(n, sum)
		}
	}
}

func frameOf(train int64, seq int64, values ...int64) impl.Frame {
	return impl.Frame{Train: train, Seq: seq, Values: values}
}

func sameFrame(a impl.Frame, b impl.Frame) bool {
	return a.Train == b.Train && a.Seq == b.Seq && slices.Equal(a.Values, b.Values)
}

func rightFrames() []impl.Frame {
	list := []impl.Frame{
		frameOf(1, 0), frameOf(4, 65535), frameOf(2, 165), frameOf(3, 42405, 42405, 42405), frameOf(1, 258, 3),
		frameOf(1, 255, 0), frameOf(4, 256, 65535), frameOf(2, 1, 0, 65535, 255, 256, 257),
		frameOf(1, 0, make([]int64, 20)...), frameOf(4, 65535, slices.Repeat([]int64{65535}, 20)...),
	}
	for seed := range int64(40) {
		train, seq := 1+seed%4, someNumbers(seed, 1, 0, 65535)[0]
		list = append(list, frameOf(train, seq, someNumbers(seed+70, int(seed%21), 0, 65535)...))
	}
	return list
}

func wrongFrames() []impl.Frame {
	list := []impl.Frame{{}, frameOf(1, 0, make([]int64, 21)...), frameOf(1, 0, make([]int64, 256)...), frameOf(1, 0, make([]int64, 276)...)}
	for _, train := range []int64{0, 5, -1, -4, 256, 257, 260, 1<<32 + 1, math.MinInt64, math.MaxInt64} {
		list = append(list, frameOf(train, 0), frameOf(train, 9, 1, 2))
	}
	for _, n := range []int64{-1, 65536, 65537, -65535, 1<<32 + 1, math.MinInt64, math.MaxInt64} {
		list = append(list, frameOf(1, n), frameOf(4, n, 1, 2), frameOf(1, 0, n))
		for place := range 20 {
			values := make([]int64, 20)
			values[place] = n
			list = append(list, frameOf(1, 0, values...))
		}
	}
	return list
}

func wantBytes(f impl.Frame) []byte {
	data := []byte{165, byte(f.Train), byte(f.Seq / 256), byte(f.Seq % 256), byte(len(f.Values))}
	for _, v := range f.Values {
		data = append(data, byte(v/256), byte(v%256))
	}
	return summed(data)
}

// summed puts the right sum behind data.
func summed(data []byte) []byte {
	sum := wantCrc(data)
	return append(bytes.Clone(data), byte(sum/256), byte(sum%256))
}

func TestP13WriteTold(t *testing.T) {
	data := impl.WriteFrame(frameOf(1, 258, 3))
	if !bytes.Equal(data[:7], []byte{165, 1, 1, 2, 1, 0, 3}) || !bytes.Equal(data, wantBytes(frameOf(1, 258, 3))) {
		t.Error(data)
	}
	if data := impl.WriteFrame(frameOf(4, 65535)); !bytes.Equal(data, summed([]byte{165, 4, 255, 255, 0})) {
		t.Error(data)
	}
	if data := impl.WriteFrame(frameOf(2, 1, make([]int64, 20)...)); len(data) != 47 || data[4] != 20 {
		t.Error(data)
	}
	for _, f := range wrongFrames() {
		if data := impl.WriteFrame(f); len(data) != 0 {
			t.Error(f, data)
		}
	}
}

func TestP13FramesAreReadBack(t *testing.T) {
	for _, f := range rightFrames() {
		kept := slices.Clone(f.Values)
		data := impl.WriteFrame(f)
		if !bytes.Equal(data, wantBytes(f)) {
			t.Fatal(f, data)
		}
		g, code := impl.ReadFrame(data)
		if code != 0 || !sameFrame(f, g) {
			t.Fatal(f, g, code)
		}
		if again := impl.WriteFrame(g); !bytes.Equal(again, data) {
			t.Fatal(g, again)
		}
		if !slices.Equal(f.Values, kept) {
			t.Fatal("the values are changed")
		}
	}
	for train := int64(-2); train <= 7; train++ {
		for _, seq := range []int64{-1, 0, 1, 65534, 65535, 65536} {
			g, code := impl.ReadFrame(impl.WriteFrame(frameOf(train, seq, 7)))
			right := train >= 1 && train <= 4 && seq >= 0 && seq <= 65535
			if right != (code == 0) || right && !sameFrame(g, frameOf(train, seq, 7)) || !right && code != impl.FrShort {
				t.Error(train, seq, g, code)
			}
		}
	}
}

// wantFrame tells a code by the words, one check behind the other.
func wantFrame(data []byte) (impl.Frame, int64) {
	n := len(data)
	if n < 7 {
		return impl.Frame{}, 1
	}
	if data[0] != 165 {
		return impl.Frame{}, 2
	}
	if data[4] > 20 || n != 7+2*int(data[4]) {
		return impl.Frame{}, 3
	}
	if wantCrc(data[:n-2]) != int64(data[n-2])*256+int64(data[n-1]) {
		return impl.Frame{}, 4
	}
	if data[1] == 0 || data[1] > 4 {
		return impl.Frame{}, 5
	}
	f := frameOf(int64(data[1]), int64(data[2])*256+int64(data[3]))
	for i := 5; i < n-2; i += 2 {
		f.Values = append(f.Values, int64(data[i])*256+int64(data[i+1]))
	}
	return f, 0
}

func reads(t *testing.T, data []byte) (impl.Frame, int64) {
	t.Helper()
	given := withRoom(data, 91)
	f, code := impl.ReadFrame(given)
	if told, what := wantFrame(data); !sameFrame(f, told) || code != what {
		t.Fatal(data, f, code, told, what)
	}
	if !roomKept(given, data, 91) {
		t.Fatal("the bytes are changed")
	}
	return f, code
}

func TestP13FaultsTold(t *testing.T) {
	good := wantBytes(frameOf(2, 300, 7, 8))
	end := len(good)
	with := func(data []byte, place int, b byte) []byte {
		out := bytes.Clone(data)
		out[place] = b
		return out
	}
	many := append([]byte{165, 1, 0, 0, 21}, make([]byte, 42)...)
	for _, c := range []struct {
		name string
		data []byte
		code int64
	}{
		{"nothing", nil, impl.FrShort},
		{"none", []byte{}, impl.FrShort},
		{"one byte", []byte{165}, impl.FrShort},
		{"six bytes", good[:6], impl.FrShort},
		{"six bytes, another start", []byte{1, 9, 9, 9, 99, 9}, impl.FrShort},
		{"seven bytes", good[:7], impl.FrCount},
		{"seven bytes, another start", make([]byte, 7), impl.FrStart},
		{"the shortest one", wantBytes(frameOf(1, 0)), 0},
		{"another start", with(good, 0, 164), impl.FrStart},
		{"another start, all else wrong", []byte{166, 9, 9, 9, 99, 9, 9, 9}, impl.FrStart},
		{"another start under a right sum", summed(with(good, 0, 90)[:end-2]), impl.FrStart},
		{"a count above 20", summed(many), impl.FrCount},
		{"a count of 255", summed(append([]byte{165, 1, 0, 0, 255}, make([]byte, 510)...)), impl.FrCount},
		{"a count above 20 and a wrong train", summed(with(many, 1, 9)), impl.FrCount},
		{"a byte too few", good[:end-1], impl.FrCount},
		{"a byte too many", append(bytes.Clone(good), 0), impl.FrCount},
		{"two too few under a right sum", summed(good[:end-4]), impl.FrCount},
		{"two too many under a right sum", summed(good), impl.FrCount},
		{"far too many", append(bytes.Clone(good), make([]byte, 2000)...), impl.FrCount},
		{"a count of one less", summed(with(good, 4, 1)[:end-2]), impl.FrCount},
		{"a count of one more", summed(with(good, 4, 3)[:end-2]), impl.FrCount},
		{"a sum whose higher byte is another", with(good, end-2, good[end-2]+1), impl.FrSum},
		{"a sum whose lower byte is another", with(good, end-1, good[end-1]+1), impl.FrSum},
		{"a sum turned about", with(with(good, end-2, good[end-1]), end-1, good[end-2]), impl.FrSum},
		{"a wrong train under an old sum", with(good, 1, 0), impl.FrSum},
		{"a train of 0 under a right sum", summed(with(good, 1, 0)[:end-2]), impl.FrTrain},
		{"a train of 5 under a right sum", summed(with(good, 1, 5)[:end-2]), impl.FrTrain},
		{"a train of 255 under a right sum", summed(with(good, 1, 255)[:end-2]), impl.FrTrain},
		{"a train of 4 under a right sum", summed(with(good, 1, 4)[:end-2]), 0},
		{"good", good, 0},
	} {
		f, code := reads(t, c.data)
		if code != c.code {
			t.Error(c.name, code, c.code)
		}
		if code != 0 && !sameFrame(f, impl.Frame{}) {
			t.Error(c.name, f)
		}
	}
}

// TestP13FaultsTogether makes each row of faults at once; the first of them is told.
func TestP13FaultsTogether(t *testing.T) {
	for _, f := range rightFrames() {
		for row := range 32 {
			data := wantBytes(f)
			data = data[:len(data)-2]
			want := int64(0)
			if row&1 != 0 {
				data[1], want = 5+byte(f.Seq%200), impl.FrTrain
			}
			if row&8 != 0 {
				data[0] ^= 1 << (f.Seq % 8)
			}
			switch {
			case row&4 != 0 && row&16 != 0:
				data[4] = 21 + byte(f.Seq%200)
			case row&4 != 0:
				data = append(data, 1, 2)
			}
			data = summed(data)
			if row&2 != 0 {
				data[len(data)-1-row/16] ^= 1 << (f.Seq % 8)
				want = impl.FrSum
			}
			if row&4 != 0 {
				want = impl.FrCount
			}
			if row&8 != 0 {
				want = impl.FrStart
			}
			if g, code := reads(t, data); code != want || code == 0 && !sameFrame(f, g) {
				t.Fatal(f, row, code, want)
			}
			if _, code := reads(t, data[:row%7]); code != impl.FrShort {
				t.Fatal(f, row, code)
			}
		}
	}
}

func TestP13BytesOfAnyKind(t *testing.T) {
	for n := range 60 {
		for seed := range int64(60) {
			data := someBytes(seed*61+int64(n), n)
			reads(t, data)
			for place, b := range []byte{165, byte(1 + seed%5), 0, 9} {
				if place < n {
					data[place] = b
				}
			}
			reads(t, data)
			if n > 4 && n < 48 {
				data[4] = byte((n - 5) / 2)
				reads(t, summed(data))
			}
		}
	}
	for _, n := range []int{1000, 1001, 1002, 1003, 5000} {
		data := make([]byte, n)
		copy(data, []byte{165, 1, 0, 0, 20})
		if _, code := reads(t, data); code != impl.FrCount {
			t.Error(n, code)
		}
	}
}

func TestP13OneTurnedBitIsNotRead(t *testing.T) {
	for _, f := range rightFrames() {
		data := wantBytes(f)
		for bit := range 8 * len(data) {
			turned := bytes.Clone(data)
			turned[bit/8] ^= 1 << (bit % 8)
			if g, code := reads(t, turned); code == 0 {
				t.Fatal("a frame with a turned bit is read", f, bit, g)
			}
			want := int64(impl.FrSum)
			switch bit / 8 {
			case 0:
				want = impl.FrStart
			case 4:
				want = impl.FrCount
			}
			if g, code := impl.ReadFrame(turned); code != want || !sameFrame(g, impl.Frame{}) {
				t.Fatal(f, bit, g, code)
			}
			l := impl.NewLink(f.Train)
			if m, code := impl.Hear(l, turned); code != want || !sameLink(m, l) {
				t.Fatal("a link takes it", f, bit, m, code)
			}
		}
	}
}

func TestP13FramesShareNoMemory(t *testing.T) {
	for _, f := range rightFrames() {
		data := impl.WriteFrame(f)
		kept := bytes.Clone(data)
		g, _ := impl.ReadFrame(data)
		for i := range g.Values {
			g.Values[i] = -9
		}
		_ = append(g.Values, -9)
		if !bytes.Equal(data, kept) {
			t.Fatal("the values stand in the bytes")
		}
		g, _ = impl.ReadFrame(data)
		clear(data)
		if !sameFrame(f, g) {
			t.Fatal("the bytes stand in the values")
		}
		room := append(make([]int64, 0, 64), f.Values...)
		whole := room[:64]
		for i := len(room); i < 64; i++ {
			whole[i] = 4444
		}
		if again := impl.WriteFrame(impl.Frame{Train: f.Train, Seq: f.Seq, Values: room}); !bytes.Equal(again, kept) {
			t.Fatal(again)
		}
		if !slices.Equal(whole[:len(f.Values)], f.Values) || slices.Min(whole[len(f.Values):]) != 4444 || slices.Max(whole[len(f.Values):]) != 4444 {
			t.Fatal("written into the values")
		}
	}
}

func sameLink(a impl.Link, b impl.Link) bool {
	return a.Train == b.Train && a.Heard == b.Heard && a.Seq == b.Seq && a.Age == b.Age && a.Lost == b.Lost && slices.Equal(a.Held, b.Held)
}

func linkOf(train int64, seq int64, age int64, lost int64, held ...int64) impl.Link {
	return impl.Link{Train: train, Heard: true, Seq: seq, Age: age, Lost: lost, Held: held}
}

func linkCopy(l impl.Link) impl.Link {
	l.Held = slices.Clone(l.Held)
	return l
}

func rightLinks() []impl.Link {
	return []impl.Link{
		{Train: 1, Age: 100}, {Train: 4, Age: 100, Held: []int64{}}, {Train: 2, Age: 100},
		linkOf(1, 0, 0, 0), linkOf(4, 65535, 100, 1000000000, 65535), linkOf(2, 1, 99, 999999999, 0, 65535),
		linkOf(3, 32768, 1, 1, make([]int64, 20)...), linkOf(1, 32767, 50, 70000, slices.Repeat([]int64{65535}, 20)...),
		linkOf(1, 65534, 3, 999934465, 5), linkOf(2, 40000, 0, 7, 1, 2, 3),
	}
}

func wrongLinks() []impl.Link {
	list := []impl.Link{
		{}, {Age: 100}, {Heard: true},
		{Train: 1}, {Train: 1, Age: 99}, {Train: 1, Age: 101}, {Train: 1, Age: 100, Seq: 1}, {Train: 1, Age: 100, Seq: 65535},
		{Train: 1, Age: 100, Lost: 1}, {Train: 1, Age: 100, Held: []int64{0}}, {Train: 1, Age: 100, Held: make([]int64, 20)},
		{Train: 1, Age: 0, Seq: 3, Lost: 2, Held: []int64{4}},
		linkOf(1, 0, 0, 0, make([]int64, 21)...), linkOf(1, 0, 0, 0, make([]int64, 1000)...),
	}
	for _, train := range []int64{0, 5, -1, 257, math.MinInt64, math.MaxInt64} {
		list = append(list, linkOf(train, 0, 0, 0), impl.Link{Train: train, Age: 100})
	}
	for _, wrong := range []int64{-1, 65536, math.MinInt64, math.MaxInt64} {
		list = append(list, linkOf(1, wrong, 0, 0), linkOf(1, 0, 0, 0, wrong), linkOf(1, 0, 0, 0, 1, wrong, 2), impl.Link{Train: 1, Age: 100, Seq: wrong})
		values := make([]int64, 20)
		values[19] = wrong
		list = append(list, linkOf(1, 0, 0, 0, values...))
	}
	for _, age := range []int64{-1, 101, math.MinInt64, math.MaxInt64} {
		list = append(list, linkOf(1, 0, age, 0), impl.Link{Train: 1, Age: age})
	}
	for _, lost := range []int64{-1, 1000000001, math.MinInt64, math.MaxInt64} {
		list = append(list, linkOf(1, 0, 0, lost), impl.Link{Train: 1, Age: 100, Lost: lost})
	}
	return list
}

func TestP13NewLink(t *testing.T) {
	for train := int64(-300); train <= 300; train++ {
		want := impl.Link{}
		if train >= 1 && train <= 4 {
			want = impl.Link{Train: train, Age: 100}
		}
		if l := impl.NewLink(train); !sameLink(l, want) {
			t.Error(train, l)
		}
	}
	for _, train := range []int64{math.MinInt64, math.MaxInt64, 1<<32 + 1} {
		if l := impl.NewLink(train); !sameLink(l, impl.Link{}) {
			t.Error(train, l)
		}
	}
}

// wantHear wants a right Link. It looks for the Frame by steps of one, up to 32767 of them.
func wantHear(l impl.Link, data []byte) (impl.Link, int64) {
	f, code := wantFrame(data)
	if code != 0 {
		return l, code
	}
	if f.Train != l.Train {
		return l, 6
	}
	m := impl.Link{Train: l.Train, Heard: true, Seq: f.Seq, Held: f.Values}
	if !l.Heard {
		return m, 0
	}
	steps, at := int64(0), l.Seq
	for steps <= 32767 && (steps == 0 || at != f.Seq) {
		at = (at + 1) % 65536
		steps++
	}
	if steps > 32767 {
		return l, 7
	}
	m.Lost = l.Lost
	for range steps - 1 {
		if m.Lost < 1000000000 {
			m.Lost++
		}
	}
	return m, 0
}

func hears(t *testing.T, l impl.Link, data []byte) (impl.Link, int64) {
	t.Helper()
	kept, given := linkCopy(l), withRoom(data, 33)
	m, code := impl.Hear(l, given)
	if told, what := wantHear(l, data); !sameLink(m, told) || code != what {
		t.Fatal(l, data, m, code, told, what)
	}
	if !sameLink(l, kept) || !roomKept(given, data, 33) {
		t.Fatal("an argument is changed")
	}
	return m, code
}

func TestP13HearTold(t *testing.T) {
	for _, c := range []struct {
		name string
		l    impl.Link
		f    impl.Frame
		m    impl.Link
		code int64
	}{
		{"the first one", impl.NewLink(1), frameOf(1, 65535, 7), linkOf(1, 65535, 0, 0, 7), 0},
		{"the first one of Seq 0", impl.NewLink(1), frameOf(1, 0), linkOf(1, 0, 0, 0), 0},
		{"the first one far on", impl.NewLink(4), frameOf(4, 32768, 1, 2), linkOf(4, 32768, 0, 0, 1, 2), 0},
		{"one more", linkOf(1, 7, 50, 3, 9), frameOf(1, 8, 4, 5), linkOf(1, 8, 0, 3, 4, 5), 0},
		{"two more", linkOf(1, 7, 50, 3, 9), frameOf(1, 9), linkOf(1, 9, 0, 4), 0},
		{"the same", linkOf(1, 7, 50, 3, 9), frameOf(1, 7, 4), linkOf(1, 7, 50, 3, 9), impl.LkOld},
		{"one less", linkOf(1, 7, 50, 3, 9), frameOf(1, 6, 4), linkOf(1, 7, 50, 3, 9), impl.LkOld},
		{"32767 more", linkOf(1, 7, 50, 3, 9), frameOf(1, 32774), linkOf(1, 32774, 0, 32769), 0},
		{"32768 more", linkOf(1, 7, 50, 3, 9), frameOf(1, 32775), linkOf(1, 7, 50, 3, 9), impl.LkOld},
		{"round", linkOf(1, 65535, 1, 0), frameOf(1, 0, 1), linkOf(1, 0, 0, 0, 1), 0},
		{"round and on", linkOf(1, 65535, 1, 0), frameOf(1, 2, 1), linkOf(1, 2, 0, 2, 1), 0},
		{"round, 32767 more", linkOf(1, 65535, 1, 0), frameOf(1, 32766, 1), linkOf(1, 32766, 0, 32766, 1), 0},
		{"round, 32768 more", linkOf(1, 65535, 1, 0), frameOf(1, 32767, 1), linkOf(1, 65535, 1, 0), impl.LkOld},
		{"back round", linkOf(1, 0, 1, 0), frameOf(1, 65535, 1), linkOf(1, 0, 1, 0), impl.LkOld},
		{"another train", linkOf(1, 7, 50, 3, 9), frameOf(2, 8), linkOf(1, 7, 50, 3, 9), impl.LkOther},
		{"another train of the same Seq", linkOf(1, 7, 50, 3, 9), frameOf(4, 7), linkOf(1, 7, 50, 3, 9), impl.LkOther},
		{"another train at first", impl.NewLink(3), frameOf(4, 7), impl.NewLink(3), impl.LkOther},
		{"Lost just at its most", linkOf(1, 7, 0, 999999998), frameOf(1, 10), linkOf(1, 10, 0, 1000000000), 0},
		{"Lost beyond its most", linkOf(1, 7, 0, 999999999), frameOf(1, 10), linkOf(1, 10, 0, 1000000000), 0},
		{"Lost at its most, nothing lost", linkOf(1, 7, 0, 1000000000), frameOf(1, 8), linkOf(1, 8, 0, 1000000000), 0},
		{"Lost far beyond its most", linkOf(1, 7, 0, 1000000000), frameOf(1, 32774), linkOf(1, 32774, 0, 1000000000), 0},
		{"a frame that is not right", linkOf(1, 7, 50, 3, 9), impl.Frame{}, linkOf(1, 7, 50, 3, 9), impl.FrShort},
	} {
		m, code := hears(t, c.l, impl.WriteFrame(c.f))
		if !sameLink(m, c.m) || code != c.code {
			t.Error(c.name, m, code)
		}
	}
}

func TestP13HearFaults(t *testing.T) {
	for _, l := range rightLinks() {
		for _, f := range rightFrames() {
			data := wantBytes(f)
			hears(t, l, data)
			hears(t, l, data[:len(data)-1])
			hears(t, l, append(bytes.Clone(data), 0))
			hears(t, l, append([]byte{1}, data[1:]...))
			hears(t, l, append(bytes.Clone(data[:len(data)-1]), data[len(data)-1]+1))
			hears(t, l, summed(append([]byte{165, 5}, data[2:len(data)-2]...)))
		}
		hears(t, l, nil)
		hears(t, l, make([]byte, 2000))
	}
	for _, l := range wrongLinks() {
		for _, data := range [][]byte{nil, {1, 2, 3}, make([]byte, 9), wantBytes(frameOf(1, 1, 2)), wantBytes(frameOf(2, 1, 2))} {
			kept := linkCopy(l)
			if m, code := impl.Hear(l, data); code != impl.LkLink || !sameLink(m, impl.Link{}) {
				t.Error(l, data, m, code)
			}
			if !sameLink(l, kept) {
				t.Fatal("the link is changed")
			}
		}
	}
}

func TestP13EverySequence(t *testing.T) {
	data := make([][]byte, 65536)
	for seq := range data {
		data[seq] = impl.WriteFrame(frameOf(2, int64(seq), int64(seq)))
	}
	for _, from := range []int64{0, 1, 32767, 32768, 65534, 65535, 12345} {
		l := linkOf(2, from, 4, 10, 1)
		for steps := range int64(65536) {
			seq := (from + steps) % 65536
			m, code := impl.Hear(l, data[seq])
			if steps == 0 || steps > 32767 {
				if code != impl.LkOld || !sameLink(m, l) {
					t.Fatal(from, steps, m, code)
				}
			} else if code != 0 || !sameLink(m, linkOf(2, seq, 0, 9+steps, seq)) {
				t.Fatal(from, steps, m, code)
			}
		}
	}
}

// TestP13EachFrameOnceInOrder sends a long row of frames over a line that loses some, tells some again and some too late.
func TestP13EachFrameOnceInOrder(t *testing.T) {
	for seed := range int64(8) {
		first := someNumbers(seed, 1, 65000, 65535)[0]
		fates := someNumbers(seed+30, 3000, 0, 5)
		l, sent := impl.NewLink(3), [][]byte{}
		taken, last, lost := int64(0), int64(-1), int64(0)
		for i := range int64(3000) {
			frame := impl.WriteFrame(frameOf(3, (first+i)%65536, i))
			sent = append(sent, frame)
			if fates[i] == 0 && i > 0 {
				continue
			}
			m, code := impl.Hear(l, frame)
			if code != 0 || m.Age != 0 || m.Held[0] != i || i <= last {
				t.Fatal("a new frame is not taken", i, m, code)
			}
			lost += i - last - 1
			if m.Lost != lost {
				t.Fatal("what is lost", i, m.Lost, lost)
			}
			l, last = impl.Older(m, fates[i]), i
			taken++
			for _, back := range someNumbers(seed+i, int(fates[i]), 0, min(i, 900)) {
				n, code := impl.Hear(l, sent[i-back])
				if code != impl.LkOld || !sameLink(n, l) {
					t.Fatal("an old frame is taken", i, back, n, code)
				}
			}
		}
		if taken+lost != last+1 || taken < 2000 || lost < 200 {
			t.Fatal("not each frame is taken or lost", taken, lost, last)
		}
	}
}

func TestP13Older(t *testing.T) {
	ticks := []int64{0, 1, 2, 49, 50, 51, 98, 99, 100, 101, 102, 1000, math.MaxInt64 - 100, math.MaxInt64 - 1, math.MaxInt64}
	for _, l := range rightLinks() {
		kept := linkCopy(l)
		for _, n := range ticks {
			want := linkCopy(l)
			for range min(n, 200) {
				if want.Age < 100 {
					want.Age++
				}
			}
			if m := impl.Older(l, n); !sameLink(m, want) {
				t.Error(l, n, m)
			}
		}
		for _, n := range []int64{-1, -2, -100, math.MinInt64} {
			if m := impl.Older(l, n); !sameLink(m, kept) {
				t.Error(l, n, m)
			}
		}
		if !sameLink(l, kept) {
			t.Fatal("the link is changed")
		}
	}
	for age := range int64(101) {
		for n := range int64(103) {
			if m := impl.Older(linkOf(1, 5, age, 6, 7), n); !sameLink(m, linkOf(1, 5, min(age+n, 100), 6, 7)) {
				t.Fatal(age, n, m)
			}
		}
	}
	for _, l := range wrongLinks() {
		for _, n := range ticks {
			if m := impl.Older(l, n); !sameLink(m, impl.Link{}) {
				t.Error(l, n, m)
			}
		}
		if m := impl.Older(l, -1); !sameLink(m, l) {
			t.Error("ticks are asked for first", l, m)
		}
	}
}

func TestP13Fresh(t *testing.T) {
	for age := range int64(101) {
		l := linkOf(4, 5, age, 6, 7, 8)
		for _, most := range []int64{math.MinInt64, -1, 0, age - 1, age, age + 1, 99, 100, 101, math.MaxInt64} {
			held, ok := impl.Fresh(l, most)
			if ok != (age <= most) || ok && !slices.Equal(held, []int64{7, 8}) || !ok && len(held) != 0 {
				t.Fatal(age, most, held, ok)
			}
		}
	}
	if held, ok := impl.Fresh(linkOf(4, 5, 0, 0), 0); !ok || len(held) != 0 {
		t.Error("no values are fresh, too", held, ok)
	}
	for _, most := range []int64{-1, 0, 99, 100, 101, math.MaxInt64} {
		for train := int64(1); train <= 4; train++ {
			if held, ok := impl.Fresh(impl.NewLink(train), most); ok || len(held) != 0 {
				t.Error("nothing was heard", train, most, held, ok)
			}
		}
		for _, l := range wrongLinks() {
			if held, ok := impl.Fresh(l, most); ok || len(held) != 0 {
				t.Error(l, most, held, ok)
			}
		}
	}
}

func TestP13LinksShareNoMemory(t *testing.T) {
	frame := impl.WriteFrame(frameOf(1, 9, 5, 6))
	answers := func(l impl.Link) [][]int64 {
		taken, _ := impl.Hear(l, frame)
		old, _ := impl.Hear(l, impl.WriteFrame(frameOf(1, 7, 5)))
		other, _ := impl.Hear(l, impl.WriteFrame(frameOf(2, 9, 5)))
		short, _ := impl.Hear(l, nil)
		fresh, _ := impl.Fresh(l, 100)
		return [][]int64{taken.Held, old.Held, other.Held, short.Held, impl.Older(l, 2).Held, impl.Older(l, -1).Held, impl.Older(l, 0).Held, fresh}
	}
	held := []int64{1, 2, 3, 44, 45, 46}
	l := linkOf(1, 7, 5, 0, held[:3]...)
	keptFrame := bytes.Clone(frame)
	for i, list := range answers(l) {
		if len(list) == 0 {
			t.Fatal("nothing is held", i)
		}
		for k := range list {
			list[k] = -5
		}
		_ = append(list, -6)
		if !slices.Equal(held, []int64{1, 2, 3, 44, 45, 46}) || !bytes.Equal(frame, keptFrame) {
			t.Fatal("an answer stands in an argument", i)
		}
	}
	lists := answers(l)
	clear(held)
	clear(frame)
	for i, list := range lists {
		want := []int64{1, 2, 3}
		if i == 0 {
			want = []int64{5, 6}
		}
		if !slices.Equal(list, want) {
			t.Fatal("an argument stands in an answer", i, list)
		}
	}
}
