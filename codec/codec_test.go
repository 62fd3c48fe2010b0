package codec_test

import (
	"bytes"
	"encoding/binary"
	"math"
	"math/rand/v2"
	"testing"

	"pedagogue/api"
	"pedagogue/codec"
	"pedagogue/sample"
)

// good is a state of three layers, one of them without weights.
func good() api.State {
	return api.State{Seed: 0x0102030405060708, Step: 0x0a0b0c, Params: []api.Param{
		{W: api.Tensor{Dims: []int{2, 1}, Exp: -7, Data: []int8{5, -5}}, M: []int32{1, -1 << 20}, B: api.Tensor{Dims: []int{2}, Exp: 3, Data: []int8{127, -127}}},
		{},
		{W: api.Tensor{Dims: []int{1, 1, 1, 1}, Exp: 64, Data: []int8{0}}, M: []int32{1 << 20}, B: api.Tensor{Dims: []int{1}, Exp: -64, Data: []int8{1}}},
	}}
}

// goodBytes are good's.
func goodBytes() []byte {
	b := []byte{'p', 'd', 's', 't', 1, 2, 3, 4, 5, 6, 7, 8, 0, 0x0a, 0x0b, 0x0c, 3}
	b = append(b, 2, 0, 2, 0, 1, 0xf9, 5, 0xfb, 0, 0, 0, 1, 0xff, 0xf0, 0, 0, 0, 2, 3, 0x7f, 0x81)
	b = append(b, 0)
	return append(b, 4, 0, 1, 0, 1, 0, 1, 0, 1, 0x40, 0, 0, 0x10, 0, 0, 0, 1, 0xc0, 1)
}

// mays tells whether May, and Encode, let s.
func mays(t *testing.T, name string, s api.State, want bool) {
	t.Helper()
	b, e := codec.Encode(s)
	if codec.May(s) != want || (e == api.OK) != want || !want && (e != api.ErrArg || len(b) != 0) {
		t.Errorf("%s: %t, Encode %d", name, codec.May(s), e)
	}
}

// P24.1: each bound of each field.
func TestMay(t *testing.T) {
	mays(t, "good", good(), true)
	mays(t, "nothing", api.State{}, true)
	mays(t, "the greatest seed", api.State{Seed: math.MaxUint64, Step: api.MaxSteps, Params: make([]api.Param, 12)}, true)
	mays(t, "too many", api.State{Params: make([]api.Param, 13)}, false)
	for _, step := range []int{-1, api.MaxSteps + 1, math.MinInt, math.MaxInt} {
		mays(t, "Step", api.State{Step: step}, false)
	}
	zero := api.Param{W: api.Tensor{Dims: []int{}}, M: []int32{}, B: api.Tensor{Data: []int8{}}}
	mays(t, "wholly zero", api.State{Params: []api.Param{zero}}, true)
	for i, change := range []func(p *api.Param){
		func(p *api.Param) { p.W.Data[0] = -128 }, func(p *api.Param) { p.W.Exp = 65 }, func(p *api.Param) { p.W.Dims = []int{3} }, func(p *api.Param) { p.W = api.Tensor{} },
		func(p *api.Param) { p.B.Data[0] = -128 }, func(p *api.Param) { p.B.Exp = -65 }, func(p *api.Param) { p.B.Dims = []int{2, 1} }, func(p *api.Param) { p.B.Dims = []int{1, 1} },
		func(p *api.Param) { p.B = api.Tensor{} }, func(p *api.Param) { p.M = nil }, func(p *api.Param) { p.M = append(p.M, 0) }, func(p *api.Param) { p.M = p.M[1:] },
		func(p *api.Param) { p.M[0] = 1<<20 + 1 }, func(p *api.Param) { p.M[0] = -1<<20 - 1 }, func(p *api.Param) { p.M[0] = math.MinInt32 }, func(p *api.Param) { p.M[0] = math.MaxInt32 },
		func(p *api.Param) { *p = api.Param{W: p.W} }, func(p *api.Param) { *p = api.Param{M: []int32{0}} }, func(p *api.Param) { *p = api.Param{B: p.B} },
		func(p *api.Param) { *p = api.Param{W: api.Tensor{Exp: 1}} }, func(p *api.Param) { *p = api.Param{B: api.Tensor{Exp: -1}} },
	} {
		for _, at := range []int{0, 2} {
			s := good()
			change(&s.Params[at])
			mays(t, "change "+string(rune('a'+i)), s, false)
		}
	}
	s := good()
	s.Params[0].B = sample.Full(1, 0, 5)
	mays(t, "another number of biases", s, true)
}

// P24.1: Same is alike in all.
func TestSame(t *testing.T) {
	if !codec.Same(good(), good()) || !codec.Same(api.State{}, api.State{Params: []api.Param{}}) {
		t.Error("what is alike is not the same")
	}
	for i, change := range []func(s *api.State){
		func(s *api.State) { s.Seed++ }, func(s *api.State) { s.Step++ }, func(s *api.State) { s.Params = s.Params[:2] }, func(s *api.State) { s.Params[2].W.Data[0]++ },
		func(s *api.State) { s.Params[0].M[1]++ }, func(s *api.State) { s.Params[0].B.Exp++ }, func(s *api.State) { s.Params[1].W.Exp++ }, func(s *api.State) { s.Params = nil },
	} {
		s := good()
		change(&s)
		if codec.Same(s, good()) || codec.Same(good(), s) {
			t.Errorf("change %d: the same", i)
		}
	}
}

// P24.2: Encode's bytes.
func TestEncode(t *testing.T) {
	if b, e := codec.Encode(good()); e != api.OK || !bytes.Equal(b, goodBytes()) {
		t.Errorf("Encode: % x %d, want % x", b, e, goodBytes())
	}
	if b, e := codec.Encode(api.State{}); e != api.OK || len(b) != 17 {
		t.Errorf("without Params: %d bytes, %d", len(b), e)
	}
}

func refuses(t *testing.T, name string, b []byte, want api.Errno) {
	t.Helper()
	s, e := codec.Decode(b)
	if e != want || !codec.Same(s, api.State{}) {
		t.Errorf("%s: %v %d, want %d", name, s, e, want)
	}
}

// P24.2: what ends too soon is ErrShort, at every byte; what is left is ErrForm.
func TestDecodeOfLessAndMore(t *testing.T) {
	b := goodBytes()
	for n := range b {
		refuses(t, "cut", b[:n], api.ErrShort)
	}
	refuses(t, "nil", nil, api.ErrShort)
	refuses(t, "fewer than 4", []byte("xyz"), api.ErrShort)
	refuses(t, "more", append(goodBytes(), 0), api.ErrForm)
	refuses(t, "more", append(goodBytes(), goodBytes()...), api.ErrForm)
}

// P24.2: what may not be is ErrForm as soon as it is read: with fewer bytes it is ErrShort, whatever is behind it.
func TestDecodeOfWrongBytes(t *testing.T) {
	wrong := []struct {
		name  string
		at    int // from where on other bytes stand
		other []byte
		read  int // how many bytes are read when it is known
	}{
		{"mark", 0, []byte("P"), 4}, {"mark", 3, []byte("s"), 4},
		{"step", 12, []byte{0, 0x0f, 0x42, 0x41}, 16}, {"step", 12, []byte{0xff, 0xff, 0xff, 0xff}, 16}, {"step", 12, []byte{0x80}, 16},
		{"params", 16, []byte{13}, 17}, {"params", 16, []byte{255}, 17},
		{"lengths", 17, []byte{5}, 18}, {"lengths", 17, []byte{255}, 18},
		{"Dims", 18, []byte{0, 0}, 22}, {"Dims", 20, []byte{0, 0}, 22}, {"Dims", 18, []byte{0x10, 1, 0, 1}, 22}, {"Dims", 18, []byte{0x10, 0, 0, 3}, 22}, {"Dims", 20, []byte{0xff, 0xff}, 22},
		{"W's Exp", 22, []byte{65}, 25}, {"W's Exp", 22, []byte{0xbf}, 25}, {"W", 23, []byte{0x80}, 25}, {"W", 24, []byte{0x80}, 25},
		{"M", 25, []byte{0, 0x10, 0, 1}, 33}, {"M", 29, []byte{0xff, 0xef, 0xff, 0xff}, 33}, {"M", 25, []byte{0x80, 0, 0, 0}, 33},
		{"B's length", 33, []byte{0, 0}, 35}, {"B's length", 33, []byte{0x10, 1}, 35},
		{"B's Exp", 35, []byte{65}, 38}, {"B", 36, []byte{0x80}, 38}, {"B", 37, []byte{0x80}, 38},
		{"the third's lengths", 39, []byte{6}, 40}, {"the third's W", 49, []byte{0x80}, 50}, {"the third's B", 57, []byte{0x80}, 58},
	}
	for _, w := range wrong {
		b := goodBytes()
		copy(b[w.at:], w.other)
		refuses(t, w.name, b, api.ErrForm)
		refuses(t, w.name+", cut behind it", b[:w.read], api.ErrForm)
		refuses(t, w.name+", cut in it", b[:w.read-1], api.ErrShort)
	}
}

// P24.2: the greatest step, and the greatest number of Params, may be.
func TestDecodeAtTheBounds(t *testing.T) {
	b := append([]byte("pdst\xff\xff\xff\xff\xff\xff\xff\xff\x00\x0f\x42\x40\x0c"), make([]byte, 12)...)
	s, e := codec.Decode(b)
	if e != api.OK || !codec.Same(s, api.State{Seed: math.MaxUint64, Step: 1000000, Params: make([]api.Param, 12)}) {
		t.Errorf("Decode: %v %d", s, e)
	}
	long := binary.BigEndian.AppendUint16([]byte("pdst\x00\x00\x00\x00\x00\x00\x00\x00\x00\x00\x00\x00\x01\x02"), 4096)
	long = binary.BigEndian.AppendUint16(long, 2)
	long = append(long, make([]byte, 1+8192+4*8192)...)
	long = binary.BigEndian.AppendUint16(long, 4096)
	long = append(long, make([]byte, 1+4096)...)
	s, e = codec.Decode(long)
	if e != api.OK || len(s.Params[0].M) != 8192 || len(s.Params[0].B.Data) != 4096 {
		t.Errorf("Decode of the longest: %d", e)
	}
}

// someState is one by chance.
func someState(dice *rand.Rand) api.State {
	s := api.State{Seed: dice.Uint64(), Step: dice.IntN(api.MaxSteps + 1)}
	for range dice.IntN(13) {
		p := api.Param{}
		if dice.IntN(3) > 0 {
			dims := []int{1 + dice.IntN(4), 1 + dice.IntN(4), 1 + dice.IntN(3), 1 + dice.IntN(3)}[:1+dice.IntN(4)]
			p.W = sample.Tensor(dice.Uint64(), dice.IntN(129)-64, dims...)
			p.M = sample.Sums(dice.Uint64(), 20, 0, len(p.W.Data)).Data
			p.B = sample.Tensor(dice.Uint64(), dice.IntN(129)-64, 1+dice.IntN(5))
		}
		s.Params = append(s.Params, p)
	}
	return s
}

// P24.3: Decode of Encode is the state.
func TestDecodeOfEncode(t *testing.T) {
	dice := rand.New(rand.NewPCG(24, 24))
	for range 500 {
		s := someState(dice)
		b, e := codec.Encode(s)
		kept := bytes.Clone(b)
		got, eBack := codec.Decode(b)
		if e != api.OK || eBack != api.OK || !codec.Same(got, s) || !bytes.Equal(b, kept) {
			t.Fatalf("%v became %v, %d %d", s, got, e, eBack)
		}
	}
}

// P24.3: whatever bytes come: an error, or what may be, whose bytes they are.
func TestDecodeOfAnything(t *testing.T) {
	dice := rand.New(rand.NewPCG(24, 25))
	decoded := 0
	for range 30000 {
		b := goodBytes()
		for range 1 + dice.IntN(3) {
			b[dice.IntN(len(b))] = byte(dice.Uint32())
		}
		s, e := codec.Decode(b)
		if e != api.OK {
			if e != api.ErrForm && e != api.ErrShort || !codec.Same(s, api.State{}) {
				t.Fatalf("% x: %d", b, e)
			}
			continue
		}
		decoded++
		back, e := codec.Encode(s)
		if e != api.OK || !bytes.Equal(b, back) {
			t.Fatalf("% x became % x, %d", b, back, e)
		}
	}
	if decoded < 1000 {
		t.Errorf("%d decoded", decoded)
	}
}
