package ram

import (
	"bytes"
	"math"
	"math/big"
	"slices"
	"testing"

	"mezzanine/api"
)

// made is a new memory, which there must be.
func made(t *testing.T, base, size uint64) *Ram {
	t.Helper()
	r, err := New(base, size)
	if r == nil || err != api.OK {
		t.Fatalf("New(%#x, %d) is %v, %d", base, size, r, err)
	}
	return r
}

// chance is numbers without an order, the same ones in each run.
type chance uint64

func (c *chance) next() uint64 {
	x := uint64(*c)
	x ^= x << 13
	x ^= x >> 7
	x ^= x << 17
	*c = chance(x)
	return x
}

func (c *chance) below(n int) int {
	return int(c.next() >> 11 % uint64(n))
}

// pattern is n bytes, none of them 0.
func pattern(n int) []byte {
	b := make([]byte, n)
	for i := range b {
		b[i] = byte(1 + i%255)
	}
	return b
}

// lies reckons with numbers of any size whether n bytes from a on lie in a memory.
func lies(base, size, a uint64, n int) bool {
	if n <= 0 {
		return n == 0
	}
	wide := func(x uint64) *big.Int { return new(big.Int).SetUint64(x) }
	end := wide(a)
	end.Add(end, big.NewInt(int64(n)))
	room := wide(base)
	room.Add(room, wide(size))
	return a >= base && end.Cmp(room) <= 0
}

// around is addresses at a memory's edges, at those of its pages, and far from it.
func around(base, size uint64) []uint64 {
	l := []uint64{0, 1, 1 << 31, 1 << 32, 1<<63 - 1, 1 << 63, math.MaxUint64 - 4096, math.MaxUint64 - 7, math.MaxUint64 - 1, math.MaxUint64}
	for _, edge := range []uint64{base, base + 4096, base + size/2, base + size - 4096, base + size} {
		for d := range uint64(19) {
			l = append(l, edge+d-9)
		}
	}
	return l
}

// lengths is how many bytes may be asked for, and may not.
var lengths = []int{math.MinInt, math.MinInt + 1, math.MinInt32, -4096, -8, -1, 0, 1, 2, 3, 4, 5, 6, 7, 8, 9, 16, 4095, 4096, 4097, 8191, 8192, 8193, 1 << 26, 1<<26 + 1, math.MaxInt32, 1<<32 + 1, 1<<32 + 8, math.MaxInt - 1, math.MaxInt}

// some is memories of one page and of several, from the lowest address to the highest one.
func some(t *testing.T) []*Ram {
	t.Helper()
	return []*Ram{made(t, 0, 4096), made(t, 4096, 8192), made(t, api.RamBase, 3*4096), made(t, 1<<63-8192, 8192), made(t, 0, api.MaxRam), made(t, 1<<63-api.MaxRam, api.MaxRam)}
}

// P3.1

func TestNew(t *testing.T) {
	for _, x := range [][2]uint64{{0, 4096}, {4096, 4096}, {4096, 8192}, {api.RamBase, 1 << 20}, {0, 1 << 26}, {4096, 1 << 26}, {0, 1<<26 - 4096}, {1<<63 - 4096, 4096}, {1<<63 - 8192, 8192}, {1<<63 - 8192, 4096}, {1<<63 - 1<<26, 1 << 26}, {1 << 62, 12288}} {
		r := made(t, x[0], x[1])
		if r.Base() != x[0] || r.Size() != x[1] {
			t.Errorf("New(%#x, %d): base %#x, size %d", x[0], x[1], r.Base(), r.Size())
		}
		b, ok := r.Bytes(x[0], int(x[1]))
		if !ok || !bytes.Equal(b, make([]byte, x[1])) || len(r.Pages()) != 0 {
			t.Errorf("New(%#x, %d) is no memory of noughts", x[0], x[1])
		}
	}
}

func TestNewOfNoMemory(t *testing.T) {
	for _, x := range [][2]uint64{
		{0, 0}, {4096, 0}, {1 << 63, 0}, {0, 1}, {0, 2048}, {0, 4095}, {0, 4097}, {0, 6144}, {0, 1<<26 - 1}, {0, 1<<26 + 1}, {0, 1<<26 + 4096}, {4096, 1<<26 + 4096}, {0, 1 << 27}, {0, 1 << 32}, {0, 1<<32 + 4096}, {0, 1 << 63}, {0, 1<<63 + 4096}, {0, math.MaxUint64}, {0, math.MaxUint64 - 4095}, {4096, math.MaxUint64 - 4095},
		{1, 4096}, {8, 4096}, {2048, 4096}, {4095, 4096}, {4097, 4096}, {1<<63 - 4097, 4096},
		{1<<63 - 4096, 8192}, {1 << 63, 4096}, {1<<63 - 1<<26 + 4096, 1 << 26}, {1<<63 + 4096, 4096}, {math.MaxUint64 - 4095, 4096}, {math.MaxUint64 - 8191, 4096}, {math.MaxUint64, 4096}, {math.MaxUint64, math.MaxUint64},
	} {
		if r, err := New(x[0], x[1]); r != nil || err != api.ErrArg {
			t.Errorf("New(%#x, %d) is %v, %d", x[0], x[1], r, err)
		}
	}
}

// P3.2

func TestHas(t *testing.T) {
	for _, r := range some(t) {
		for _, a := range around(r.Base(), r.Size()) {
			for _, n := range append(lengths, int(r.Size())-1, int(r.Size()), int(r.Size())+1) {
				if got := r.Has(a, n); got != lies(r.Base(), r.Size(), a, n) {
					t.Errorf("a memory of %#x, %d: Has(%#x, %d) is %v", r.Base(), r.Size(), a, n, got)
				}
			}
		}
	}
}

func TestReadAndWriteOfTheChapter(t *testing.T) {
	r := made(t, 4096, 8192)
	if !r.Write(4096, 2, 0x1234) {
		t.Error("Write(4096, 2, 0x1234)")
	}
	for i, x := range []struct {
		a    uint64
		n    int
		want uint64
		ok   bool
	}{{4096, 1, 0x34, true}, {4097, 1, 0x12, true}, {4095, 2, 0, false}, {12284, 8, 0, false}, {4096, 3, 0, false}, {4096, 2, 0x1234, true}, {4096, 8, 0x1234, true}, {4097, 4, 0x12, true}, {12280, 8, 0, true}, {12287, 1, 0, true}, {12288, 1, 0, false}} {
		if got, ok := r.Read(x.a, x.n); got != x.want || ok != x.ok {
			t.Errorf("line %d: %#x, %v", i, got, ok)
		}
	}
	if !r.Write(8190, 4, 0x01020304) {
		t.Error("Write(8190, 4, 0x01020304)")
	}
	if b, ok := r.Bytes(8190, 4); !ok || !bytes.Equal(b, []byte{4, 3, 2, 1}) {
		t.Errorf("Bytes(8190, 4) is %v, %v", b, ok)
	}
	if l := r.Pages(); !slices.Equal(l, []uint64{4096, 8192}) {
		t.Errorf("two pages: %v", l)
	}
	if !r.Write(8192, 2, 0) || !slices.Equal(r.Pages(), []uint64{4096}) {
		t.Errorf("one page: %v", r.Pages())
	}
	if !r.Has(12288, 0) || !r.Has(12289, 0) || !r.Has(4096, 8192) || r.Has(4096, 8193) {
		t.Error("Has")
	}
}

func TestWhichNumbersThereAre(t *testing.T) {
	for _, r := range some(t) {
		for _, a := range around(r.Base(), r.Size()) {
			for _, n := range lengths {
				whether := (n == 1 || n == 2 || n == 4 || n == 8) && lies(r.Base(), r.Size(), a, n)
				before := r.Twin()
				// Noughts ahead of the write tell a number that is refused from one that is there.
				if v, ok := r.Read(a, n); ok != whether || v != 0 {
					t.Errorf("a memory of %#x, %d: Read(%#x, %d) is %#x, %v", r.Base(), r.Size(), a, n, v, ok)
				}
				if ok := r.Write(a, n, math.MaxUint64); ok != whether {
					t.Errorf("a memory of %#x, %d: Write(%#x, %d) is %v", r.Base(), r.Size(), a, n, ok)
				}
				if Same(before, r) == whether {
					t.Errorf("a memory of %#x, %d: Write(%#x, %d) told %v and did otherwise", r.Base(), r.Size(), a, n, whether)
				}
				if whether {
					r.Write(a, n, 0)
				}
			}
		}
	}
}

func TestReadBesideNumbersIsNothing(t *testing.T) {
	r := made(t, 4096, 8192)
	r.Put(4096, pattern(8192))
	for _, a := range around(4096, 8192) {
		for _, n := range lengths {
			whether := (n == 1 || n == 2 || n == 4 || n == 8) && lies(4096, 8192, a, n)
			if v, ok := r.Read(a, n); ok != whether || (v != 0) != whether {
				t.Errorf("Read(%#x, %d) is %#x, %v", a, n, v, ok)
			}
		}
	}
}

func TestNumbersAreOfBytes(t *testing.T) {
	const v = 0x8877665544332211
	for _, n := range []int{1, 2, 4, 8} {
		for off := range 8192 - n + 1 {
			r := made(t, api.RamBase, 8192)
			want := pattern(8192)
			r.Put(api.RamBase, want)
			if !r.Write(api.RamBase+uint64(off), n, v) {
				t.Fatalf("Write of %d bytes at %d is refused", n, off)
			}
			w := uint64(v)
			for i := range n {
				want[off+i] = byte(w % 256)
				w /= 256
			}
			if got, _ := r.Bytes(api.RamBase, 8192); !bytes.Equal(got, want) {
				t.Fatalf("a number of %d bytes at %d stands otherwise, or bytes beside it", n, off)
			}
			if got, ok := r.Read(api.RamBase+uint64(off), n); !ok || got != lowest(v, n) {
				t.Fatalf("Read of %d bytes at %d is %#x, %v", n, off, got, ok)
			}
		}
	}
}

// worth is 256^n, of n below 8.
func worth(n int) uint64 {
	w := uint64(1)
	for range n {
		w *= 256
	}
	return w
}

// lowest is the lowest n bytes of v, as a number.
func lowest(v uint64, n int) uint64 {
	if n == 8 {
		return v
	}
	return v % worth(n)
}

// P3.3

func TestPutAndBytes(t *testing.T) {
	for _, x := range [][2]int{{0, 0}, {0, 1}, {0, 5}, {7, 3}, {4095, 1}, {4095, 2}, {4096, 1}, {0, 4096}, {1, 4096}, {4000, 200}, {4096, 4096}, {4090, 4108}, {1, 12286}, {12287, 1}, {0, 12288}, {12288, 0}, {5000, 7288}} {
		off, n := x[0], x[1]
		r := made(t, 1<<20, 12288)
		a := uint64(1<<20 + off)
		b := pattern(n)
		if !r.Put(a, b) {
			t.Errorf("Put of %d bytes at %d is refused", n, off)
		}
		want := make([]byte, 12288)
		copy(want[off:], b)
		if got, ok := r.Bytes(1<<20, 12288); !ok || !bytes.Equal(got, want) {
			t.Errorf("Put of %d bytes at %d stands otherwise", n, off)
		}
		if got, ok := r.Bytes(a, n); !ok || !bytes.Equal(got, b) {
			t.Errorf("Bytes of %d at %d: %v", n, off, ok)
		}
	}
}

func TestPutAndBytesBeyondMemory(t *testing.T) {
	for _, r := range some(t) {
		r.Put(r.Base()+r.Size()-4096, pattern(4096))
		r.Put(r.Base(), pattern(4096))
		before := r.Twin()
		for _, a := range around(r.Base(), r.Size()) {
			for _, n := range lengths {
				if n < 0 || n > 16384 {
					continue
				}
				whether := lies(r.Base(), r.Size(), a, n)
				if !whether && (r.Put(a, make([]byte, n)) || !Same(before, r)) {
					t.Errorf("a memory of %#x, %d: Put of %d bytes at %#x", r.Base(), r.Size(), n, a)
				}
				if whether && n < 1 && (!r.Put(a, nil) || !r.Put(a, []byte{}) || !Same(before, r)) {
					t.Errorf("a memory of %#x, %d: Put of no bytes at %#x", r.Base(), r.Size(), a)
				}
			}
			for _, n := range lengths {
				whether := lies(r.Base(), r.Size(), a, n)
				if whether && n > 16384 {
					continue
				}
				if b, ok := r.Bytes(a, n); ok != whether || ok && len(b) != n || !ok && b != nil {
					t.Errorf("a memory of %#x, %d: Bytes(%#x, %d) are %d, %v", r.Base(), r.Size(), a, n, len(b), ok)
				}
			}
		}
	}
}

func TestPutOfMoreThanAllMemory(t *testing.T) {
	r := made(t, 0, api.MaxRam)
	if r.Put(0, make([]byte, api.MaxRam+1)) || r.Put(1, make([]byte, api.MaxRam)) || len(r.Pages()) != 0 {
		t.Error("more bytes than there is memory")
	}
	b := pattern(api.MaxRam)
	if !r.Put(0, b) || len(r.Pages()) != api.MaxRam/4096 {
		t.Error("all of the memory")
	}
	if got, ok := r.Bytes(0, api.MaxRam); !ok || !bytes.Equal(got, b) {
		t.Error("all of the memory is otherwise")
	}
	if !r.Put(0, make([]byte, api.MaxRam)) || len(r.Pages()) != 0 {
		t.Error("all of the memory is to be noughts")
	}
}

// P3.4

func TestPages(t *testing.T) {
	const base = 1<<63 - 64*4096
	r := made(t, base, 64*4096)
	page := func(i int) uint64 { return base + uint64(i)*4096 }
	is := func(l ...int) {
		t.Helper()
		var want []uint64
		for _, i := range l {
			want = append(want, page(i))
		}
		if got := r.Pages(); !slices.Equal(got, want) {
			t.Errorf("pages %#x, not %#x", got, want)
		}
	}
	is()
	for _, i := range []int{63, 9, 40, 0, 41, 10} {
		r.Write(page(i)+uint64(i)*65, 1, 1)
	}
	is(0, 9, 10, 40, 41, 63)
	r.Write(page(5), 8, 0)
	r.Put(page(20)-3, make([]byte, 9000))
	is(0, 9, 10, 40, 41, 63)
	// The first byte and the last one of a page are the farthest that are its own.
	r.Write(page(31)-1, 1, 7)
	r.Write(page(33), 1, 7)
	is(0, 9, 10, 30, 33, 40, 41, 63)
	r.Write(page(31)-1, 2, 0)
	is(0, 9, 10, 33, 40, 41, 63)
	r.Put(page(9), make([]byte, 2*4096-1))
	is(0, 33, 40, 41, 63)
	r.Write(page(20)-1, 2, 0x0101)
	is(0, 19, 20, 33, 40, 41, 63)
	r.Write(page(20)-1, 2, 0x0100)
	is(0, 20, 33, 40, 41, 63)
	r.Write(page(20)-4, 8, 0)
	is(0, 33, 40, 41, 63)
	r.Write(page(41), 2, 0x0101)
	r.Write(page(41), 1, 0)
	r.Write(page(41)+41*65, 1, 0)
	is(0, 33, 40, 41, 63)
	r.Put(page(0), make([]byte, 64*4096))
	is()
}

func TestTwinGoesItsOwnWay(t *testing.T) {
	r := made(t, 4096, 3*4096)
	r.Write(4096, 8, 1<<63+1)
	r.Write(8190, 4, 0x01020304)
	w := r.Twin()
	if w == nil || w == r || w.Base() != 4096 || w.Size() != 3*4096 || !Same(r, w) || !Same(w, r) {
		t.Fatal("a twin is otherwise")
	}
	all, _ := r.Bytes(4096, 3*4096)
	if got, ok := w.Bytes(4096, 3*4096); !ok || !bytes.Equal(got, all) || !slices.Equal(w.Pages(), r.Pages()) {
		t.Error("a twin's bytes are others")
	}
	w.Write(4096, 1, 9)
	w.Write(12288, 1, 9)
	w.Write(8190, 4, 0)
	if got, _ := r.Bytes(4096, 3*4096); !bytes.Equal(got, all) || !slices.Equal(r.Pages(), []uint64{4096, 8192}) || Same(r, w) {
		t.Error("what is written into a twin is seen")
	}
	r.Put(4096, make([]byte, 3*4096))
	if got, _ := w.Read(4096, 8); got != 1<<63+9 || !slices.Equal(w.Pages(), []uint64{4096, 12288}) {
		t.Errorf("what is written is seen in the twin: %#x, %#x", got, w.Pages())
	}
	if e := r.Twin(); e == nil || e.Base() != 4096 || e.Size() != 3*4096 || !Same(e, r) || !e.Write(4096, 1, 1) || Same(e, r) {
		t.Error("the twin of a memory of noughts")
	}
}

func TestSame(t *testing.T) {
	for _, x := range []struct {
		a, b [2]uint64
		want bool
	}{
		{[2]uint64{4096, 8192}, [2]uint64{4096, 8192}, true},
		{[2]uint64{4096, 8192}, [2]uint64{0, 8192}, false},
		{[2]uint64{4096, 8192}, [2]uint64{4096, 4096}, false},
		{[2]uint64{0, 4096}, [2]uint64{4096, 4096}, false},
	} {
		a, b := made(t, x.a[0], x.a[1]), made(t, x.b[0], x.b[1])
		both := func(ahead string) {
			t.Helper()
			if Same(a, b) != x.want || Same(b, a) != x.want || !Same(a, a) || !Same(b, b) {
				t.Errorf("%s of %v, %v", ahead, x.a, x.b)
			}
		}
		both("noughts")
		// A byte that both have, where they have one.
		a.Write(4096, 4, 0x05060708)
		b.Write(4096, 4, 0x05060708)
		both("one number")
	}
	if !Same(nil, nil) || Same(nil, made(t, 0, 4096)) || Same(made(t, 0, 4096), nil) {
		t.Error("nil ones")
	}
}

func TestSameIsOfEveryByte(t *testing.T) {
	a := made(t, 0, 3*4096)
	a.Put(0, pattern(2*4096))
	b := a.Twin()
	for i := range uint64(3 * 4096) {
		v, _ := b.Read(i, 1)
		b.Write(i, 1, v^0x80)
		if Same(a, b) || Same(b, a) {
			t.Fatalf("the byte %d is another one", i)
		}
		b.Write(i, 1, v)
		if !Same(a, b) || !Same(b, a) {
			t.Fatalf("the byte %d was put back", i)
		}
	}
}

// P3.5

func TestNilMemory(t *testing.T) {
	var r *Ram
	if r.Base() != 0 || r.Size() != 0 || len(r.Pages()) != 0 || r.Twin() != nil {
		t.Error("a nil memory has something")
	}
	for _, a := range []uint64{0, 1, 4096, api.RamBase, 1 << 63, math.MaxUint64} {
		for _, n := range lengths {
			if r.Has(a, n) {
				t.Errorf("Has(%#x, %d)", a, n)
			}
			if v, ok := r.Read(a, n); v != 0 || ok {
				t.Errorf("Read(%#x, %d)", a, n)
			}
			if r.Write(a, n, 1) {
				t.Errorf("Write(%#x, %d)", a, n)
			}
			if b, ok := r.Bytes(a, n); b != nil || ok {
				t.Errorf("Bytes(%#x, %d)", a, n)
			}
		}
		if r.Put(a, nil) || r.Put(a, []byte{}) || r.Put(a, []byte{0}) || r.Put(a, make([]byte, 4096)) {
			t.Errorf("Put at %#x", a)
		}
	}
}

func TestMemoryThatNobodyMade(t *testing.T) {
	r := new(Ram)
	if !r.Has(5, 0) || r.Has(0, 1) || r.Write(0, 8, 1) || !r.Put(0, nil) || r.Put(0, []byte{1}) || len(r.Pages()) != 0 || !Same(r, r.Twin()) || Same(r, made(t, 0, 4096)) {
		t.Error("the zero memory")
	}
	if b, ok := r.Bytes(0, 0); len(b) != 0 || !ok {
		t.Error("no bytes of the zero memory")
	}
}

func TestWhatIsHandedInIsNotKept(t *testing.T) {
	r := made(t, 0, 8192)
	b := append(make([]byte, 0, 8000), pattern(5000)...)
	room := b[:cap(b)]
	ahead := bytes.Clone(room)
	r.Put(100, b)
	r.Write(100, 8, 0)
	r.Put(5000, make([]byte, 1000))
	if !bytes.Equal(room, ahead) {
		t.Error("what was handed in is changed")
	}
	before := r.Twin()
	clear(room)
	if !Same(before, r) {
		t.Error("what was handed in is kept")
	}
}

func TestWhatIsToldIsNew(t *testing.T) {
	r := made(t, 4096, 8192)
	r.Put(4096, pattern(8192))
	before := r.Twin()
	whole, _ := r.Bytes(4096, 8192)
	one, _ := r.Bytes(4096, 4096)
	clear(one[:cap(one)])
	if !bytes.Equal(whole, pattern(8192)) || !Same(before, r) {
		t.Error("bytes share memory")
	}
	l := r.Pages()
	clear(l[:cap(l)])
	if !slices.Equal(r.Pages(), []uint64{4096, 8192}) || !Same(before, r) {
		t.Error("pages share memory")
	}
	r.Put(4096, make([]byte, 8192))
	if !bytes.Equal(whole, pattern(8192)) {
		t.Error("what was told is changed behind a write")
	}
}

// P3.6

func TestHalvesMakeNumbers(t *testing.T) {
	r := made(t, api.RamBase, 8192)
	c := chance(0x9e3779b97f4a7c15)
	for off := range uint64(8192) {
		r.Write(api.RamBase+off, 1, c.next())
	}
	for _, n := range []int{2, 4, 8} {
		for off := range 8192 - n + 1 {
			a := api.RamBase + uint64(off)
			whole, _ := r.Read(a, n)
			low, _ := r.Read(a, n/2)
			high, _ := r.Read(a+uint64(n/2), n/2)
			if whole != low+high*worth(n/2) {
				t.Fatalf("%d bytes at %#x: %#x of %#x and %#x", n, a, whole, low, high)
			}
		}
	}
}

// model is a memory that holds each byte.
type model struct {
	base uint64
	all  []byte
}

// act does to r and m the same, and holds what r tells against m.
func (m model) act(t *testing.T, r *Ram, c *chance) {
	t.Helper()
	// Few addresses, most of them at the edges of pages, let writes meet often.
	off := c.below(len(m.all)/4096+1)*4096 + c.below(33) - 16
	a := m.base + uint64(off)
	n := c.below(24)
	v := c.next()
	if c.below(2) == 0 {
		v = 0
	}
	fits := off >= 0 && off+n <= len(m.all)
	number := fits && (n == 1 || n == 2 || n == 4 || n == 8)
	if c.below(4) == 0 {
		b := bytes.Repeat([]byte{byte(v)}, n)
		if r.Put(a, b) != (fits || n == 0) {
			t.Fatalf("Put of %d bytes at %#x", n, a)
		}
		if fits {
			copy(m.all[off:], b)
		}
		return
	}
	if r.Write(a, n, v) != number {
		t.Fatalf("Write(%#x, %d)", a, n)
	}
	if !number {
		return
	}
	for i := range n {
		m.all[off+i] = byte(v / worth(i) % 256)
	}
	if got, ok := r.Read(a, n); !ok || got != lowest(v, n) {
		t.Fatalf("Read(%#x, %d) is %#x, %v behind Write of %#x", a, n, got, ok, v)
	}
}

// pages is the addresses of the pages that have other bytes than 0.
func (m model) pages() []uint64 {
	var l []uint64
	for i := 0; i < len(m.all); i += 4096 {
		for _, x := range m.all[i : i+4096] {
			if x != 0 {
				l = append(l, m.base+uint64(i))
				break
			}
		}
	}
	return l
}

func TestAnyWritesInAnyOrder(t *testing.T) {
	const pages = 5
	for round := range 8 {
		base := []uint64{0, api.RamBase, 1<<63 - pages*4096, 4096}[round%4]
		c := chance(0x9e3779b97f4a7c15 + uint64(round))
		r := made(t, base, pages*4096)
		m := model{base, make([]byte, pages*4096)}
		for range 1500 {
			m.act(t, r, &c)
			if got, ok := r.Bytes(base, pages*4096); !ok || !bytes.Equal(got, m.all) {
				t.Fatal("the bytes are others")
			}
			if got := r.Pages(); !slices.Equal(got, m.pages()) {
				t.Fatalf("pages %#x, not %#x", got, m.pages())
			}
			// Language and document let nothing be kept that the bytes do not need.
			if len(r.pages) != len(m.pages()) {
				t.Fatalf("%d pages are kept, of %d", len(r.pages), len(m.pages()))
			}
		}
		backwards(t, r, m)
	}
}

// backwards writes m's bytes in another order, and by other numbers, into a new memory, which must be the same then, and only then.
func backwards(t *testing.T, r *Ram, m model) {
	t.Helper()
	w := made(t, m.base, uint64(len(m.all)))
	w.Put(m.base, pattern(len(m.all)))
	for i := len(m.all) - 1; i >= 0; i-- {
		if i < 5000 && i%512 == 0 && Same(r, w) != bytes.Equal(told(w), m.all) {
			t.Errorf("Same with %d bytes left", i)
		}
		w.Write(m.base+uint64(i), 1, uint64(m.all[i]))
	}
	if !Same(r, w) || !Same(w, r) {
		t.Error("the same bytes, in another order")
	}
}

// told is all that r has.
func told(r *Ram) []byte {
	b, _ := r.Bytes(r.Base(), int(r.Size()))
	return b
}
