package tests

import (
	"math"
	"math/rand"
	"strings"
	"testing"

	"loop.example/g01101/impl"
)

// badWords are words that are not valid for 1 test and 2 actions.
func badWords() map[string]impl.Word {
	return map[string]impl.Word{
		"no atom":          {},
		"no atom, one act": {Acts: []int64{0}},
		"two atoms":        {Atoms: []int64{0, 0}},
		"as many acts":     {Atoms: []int64{0, 0}, Acts: []int64{0, 0}},
		"too many acts":    {Atoms: []int64{0}, Acts: []int64{0, 0}},
		"an atom too many": {Atoms: []int64{0, 0, 0}, Acts: []int64{0}},
		"atom -1":          {Atoms: []int64{-1}},
		"atom 2":           {Atoms: []int64{0, 2}, Acts: []int64{0}},
		"a great atom":     {Atoms: []int64{math.MaxInt64}},
		"act -1":           {Atoms: []int64{0, 0}, Acts: []int64{-1}},
		"act 2":            {Atoms: []int64{0, 1, 1}, Acts: []int64{1, 2}},
		"11 acts":          {Atoms: make([]int64, 12), Acts: make([]int64, 11)},
	}
}

func TestValidWord(t *testing.T) {
	for name, w := range badWords() {
		want(t, name, list(impl.ValidWord(sig12, w), impl.WordText(sig12, w)), list(false, ""))
	}
	longest := impl.Word{Atoms: make([]int64, 11), Acts: make([]int64, 10)}
	last := impl.Word{Atoms: []int64{7, 7}, Acts: []int64{3}}
	want(t, "good ones", list(impl.ValidWord(sig12, longest), impl.ValidWord(sig34, last),
		impl.ValidWord(sig00, impl.Word{Atoms: []int64{0}}),
		impl.ValidWord(sig00, impl.Word{Atoms: []int64{0}, Acts: []int64{}})), "[true true true true]")
	want(t, "for the signature", list(impl.ValidWord(sig00, longest), impl.ValidWord(sig12, last),
		impl.ValidWord(sig04, last), impl.ValidWord(impl.Sig{Tests: 3}, last)), "[false false false false]")
	for _, g := range badSigs {
		want(t, "bad signature", list(impl.ValidWord(g, impl.Word{Atoms: []int64{0}}),
			impl.WordText(g, impl.Word{Atoms: []int64{0}})), list(false, ""))
	}
}

func TestSameWord(t *testing.T) {
	w := impl.Word{Atoms: []int64{1, 0}, Acts: []int64{1}}
	for _, v := range []impl.Word{{}, {Atoms: w.Atoms}, {Acts: w.Acts}, {Atoms: []int64{1, 1}, Acts: w.Acts},
		{Atoms: []int64{0, 0}, Acts: w.Acts}, {Atoms: w.Atoms, Acts: []int64{0}},
		{Atoms: []int64{1, 0, 0}, Acts: w.Acts}, {Atoms: w.Atoms, Acts: []int64{1, 0}}, {Atoms: w.Acts, Acts: w.Atoms}} {
		if impl.SameWord(v, w) || impl.SameWord(w, v) {
			t.Errorf("%v is not the same as %v", v, w)
		}
	}
	want(t, "the same", list(impl.SameWord(w, impl.Word{Atoms: []int64{1, 0}, Acts: []int64{1}}),
		impl.SameWord(impl.Word{}, impl.Word{Atoms: []int64{}, Acts: []int64{}}),
		impl.SameWord(impl.Word{Atoms: []int64{-9}}, impl.Word{Atoms: []int64{-9}})), "[true true true]")
}

func TestWordText(t *testing.T) {
	rows := map[string]impl.Word{
		"0":               {Atoms: []int64{0}},
		"7":               {Atoms: []int64{7}},
		"1 a0 0":          {Atoms: []int64{1, 0}, Acts: []int64{0}},
		"5 a3 6 a1 0":     {Atoms: []int64{5, 6, 0}, Acts: []int64{3, 1}},
		"0 a2 7 a2 7":     {Atoms: []int64{0, 7, 7}, Acts: []int64{2, 2}},
		"3 a0 3 a1 2 a3 ": {},
	}
	for text, w := range rows {
		wanted, code := text, impl.OK
		if len(w.Atoms) == 0 {
			wanted, code = "", impl.ErrSyntax
		}
		want(t, "text", impl.WordText(sig34, w), wanted)
		got, c := impl.ReadWord(sig34, text)
		want(t, "read "+text, list(got, c), list(w, code))
	}
	r := rand.New(rand.NewSource(2))
	for i := range 300 {
		w := randomWord(r, sig34, i%11)
		got, code := impl.ReadWord(sig34, impl.WordText(sig34, w))
		want(t, "read again", list(got, code), list(w, impl.OK))
	}
}

func TestReadWordErrors(t *testing.T) {
	bad := []string{"", " ", "-1", "+1", "00", "01", "2", "10", "18446744073709551616", "a", "a0", "0 ", " 0", "0\n",
		"0 a", "0 a0", "0 a0 ", "0 a0 2", "0 a2 0", "0 a-1 0", "0 a00 0", "0 a0 00", "0 a0 01", "0  a0 0", "0 a0  0",
		"0 a 0 0", "0 0", "0a0 0", "0 a00", "0 A0 0", "0 a0 0 ", "0 a0 0 a", "0 a0 0 a1", "0 a0 0 1", "0,a0,0", "0 t0 0",
		"0\ta0\t0", "x", "0x0", "1 a0 1x", "0 a18446744073709551616 0", "0" + strings.Repeat(" a0 0", 11),
		"0" + strings.Repeat(" a0 0", 10) + " ", strings.Repeat("0", 5000)}
	for _, text := range bad {
		w, code := impl.ReadWord(sig12, text)
		want(t, "read "+short(text), list(w, code), list(impl.Word{}, impl.ErrSyntax))
	}
	w, code := impl.ReadWord(sig12, "1"+strings.Repeat(" a1 0", 10))
	want(t, "the longest", list(len(w.Acts), code), list(10, impl.OK))
	for _, g := range badSigs {
		for _, text := range []string{"0", ""} {
			w, code := impl.ReadWord(g, text)
			want(t, "bad signature", list(w, code), list(impl.Word{}, impl.ErrInvalid))
		}
	}
}

func TestFuseWords(t *testing.T) {
	long := "1" + strings.Repeat(" a1 1", 9)
	rows := []struct {
		v, w, result string
		code         int
	}{
		{"0", "0", "0", impl.OK}, {"1", "1 a0 0", "1 a0 0", impl.OK}, {"1 a0 0", "0", "1 a0 0", impl.OK},
		{"1 a0 0", "0 a1 1", "1 a0 0 a1 1", impl.OK}, {"0 a1 1 a1 1", "1 a0 0 a0 1", "0 a1 1 a1 1 a0 0 a0 1", impl.OK},
		{"0", "1", "", impl.ErrState}, {"1 a0 0", "1 a0 0", "", impl.ErrState}, {"0 a0 1", "0 a0 1", "", impl.ErrState},
		{long, "1 a0 0", long + " a0 0", impl.OK}, {"1 a0 1", long, "1 a0 1" + long[1:], impl.OK},
		{long, "1 a0 0 a0 0", "", impl.ErrLimit}, {long, long, "", impl.ErrLimit}, {long, "0 a0 0 a0 0", "", impl.ErrState},
	}
	for _, r := range rows {
		got, code := impl.FuseWords(sig12, mustWord(t, sig12, r.v), mustWord(t, sig12, r.w))
		want(t, "fused "+r.v+" and "+r.w, list(impl.WordText(sig12, got), code), list(r.result, r.code))
	}
	good := mustWord(t, sig12, "0")
	for name, bad := range badWords() {
		v, first := impl.FuseWords(sig12, bad, good)
		w, second := impl.FuseWords(sig12, good, bad)
		want(t, name, list(v, first, w, second), list(impl.Word{}, impl.ErrInvalid, impl.Word{}, impl.ErrInvalid))
	}
	_, code := impl.FuseWords(badSigs[0], good, good)
	want(t, "bad signature", code, impl.ErrInvalid)
}

func TestReverseWord(t *testing.T) {
	for text, reversed := range map[string]string{"0": "0", "1 a0 0": "0 a0 1", "1 a0 0 a1 0": "0 a1 0 a0 1",
		"0 a0 1 a1 1 a0 0 a0 1": "1 a0 0 a0 1 a1 1 a0 0"} {
		w, code := impl.ReverseWord(sig12, mustWord(t, sig12, text))
		want(t, "reversed "+text, list(impl.WordText(sig12, w), code), list(reversed, impl.OK))
	}
	for name, bad := range badWords() {
		w, code := impl.ReverseWord(sig12, bad)
		want(t, name, list(w, code), list(impl.Word{}, impl.ErrInvalid))
	}
	_, code := impl.ReverseWord(badSigs[1], impl.Word{Atoms: []int64{0}})
	want(t, "bad signature", code, impl.ErrInvalid)
}

// fused is FuseWords, whose code has to be OK.
func fused(t *testing.T, g impl.Sig, v, w impl.Word) impl.Word {
	t.Helper()
	u, code := impl.FuseWords(g, v, w)
	if code != impl.OK {
		t.Fatalf("FuseWords of %v and %v: code %d", v, w, code)
	}
	return u
}

// TestReversedAsFused: the reverse of what is fused is fused of the reverses,
// and of expressions it is the same: promise 3.
func TestReversedAsFused(t *testing.T) {
	r := rand.New(rand.NewSource(3))
	back := func(w impl.Word) impl.Word {
		v, _ := impl.ReverseWord(sig34, w)
		return v
	}
	for i := range 200 {
		v, w := randomWord(r, sig34, i%6), randomWord(r, sig34, i/6%5)
		w.Atoms[0] = v.Atoms[len(v.Acts)]
		vw := fused(t, sig34, v, w)
		want(t, "length", len(vw.Acts), len(v.Acts)+len(w.Acts))
		want(t, "reversed", back(vw), fused(t, sig34, back(w), back(v)))
		want(t, "twice", back(back(vw)), vw)
		parts := fused(t, sig34, part(vw, 0, len(v.Acts)), part(vw, len(v.Acts), len(vw.Acts)))
		want(t, "parts", parts, vw)
	}
}
