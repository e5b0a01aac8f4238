package code_test

import (
	"bytes"
	"math/big"
	"reflect"
	"slices"
	"testing"

	"haruspex/api"
	"haruspex/code"
)

// dice gives the same numbers at each run.
type dice uint64

func (d *dice) roll(n int) int {
	*d = *d*6364136223846793005 + 1442695040888963407
	return int(uint64(*d)>>33) % n
}

// number gives small ones mostly, of both signs, and now and then one of any size.
func (d *dice) number() int {
	if d.roll(4) > 0 {
		return d.roll(20) - 4
	}
	return (d.roll(1<<31-1)<<33 ^ d.roll(1<<31-1)<<8 ^ d.roll(1<<31-1)) >> d.roll(64)
}

// fill puts numbers into each place of v and a few parts into each list.
func (d *dice) fill(v reflect.Value) {
	switch v.Kind() {
	case reflect.Int:
		v.SetInt(int64(d.number()))
	case reflect.Struct:
		for k := range v.NumField() {
			d.fill(v.Field(k))
		}
	case reflect.Slice:
		v.Set(reflect.MakeSlice(v.Type(), d.roll(4), 4))
		for k := range v.Len() {
			d.fill(v.Index(k))
		}
	}
}

func (d *dice) program() *api.Program {
	p := &api.Program{}
	d.fill(reflect.ValueOf(p).Elem())
	return p
}

// The model lays a program out as one list of numbers, struct by struct in the order of the fields, which is the chapter's.
func numbersOf(v reflect.Value) []int {
	var l []int
	switch v.Kind() {
	case reflect.Int:
		return []int{int(v.Int())}
	case reflect.Struct:
		for k := range v.NumField() {
			l = append(l, numbersOf(v.Field(k))...)
		}
	case reflect.Slice:
		l = append(l, v.Len())
		for k := range v.Len() {
			l = append(l, numbersOf(v.Index(k))...)
		}
	}
	return l
}

// modelNumber works with numbers without bounds.
func modelNumber(n int) []byte {
	u := new(big.Int).Mul(big.NewInt(2), big.NewInt(int64(n)))
	if n < 0 {
		u.Neg(u).Sub(u, big.NewInt(1))
	}
	var b []byte
	for {
		digit := new(big.Int)
		u.DivMod(u, big.NewInt(128), digit)
		if u.Sign() == 0 {
			return append(b, byte(digit.Int64()))
		}
		b = append(b, byte(digit.Int64()+128))
	}
}

func modelEncode(p *api.Program) []byte {
	var b []byte
	for _, n := range numbersOf(reflect.ValueOf(*p)) {
		b = append(b, modelNumber(n)...)
	}
	return b
}

// split cuts b into numbers; false: it can't be cut, or one of them is not written as it should be.
func split(b []byte) ([]int, bool) {
	var l []int
	for len(b) > 0 {
		n := slices.IndexFunc(b, func(x byte) bool { return x < 128 }) + 1
		if n == 0 {
			return nil, false
		}
		u := new(big.Int)
		for k := n - 1; k >= 0; k-- {
			u.Mul(u, big.NewInt(128)).Add(u, big.NewInt(int64(b[k]&127)))
		}
		odd := u.Bit(0) == 1
		u.Rsh(u, 1)
		if odd {
			u.Neg(u).Sub(u, big.NewInt(1))
		}
		if !u.IsInt64() || !bytes.Equal(modelNumber(int(u.Int64())), b[:n]) {
			return nil, false
		}
		l, b = append(l, int(u.Int64())), b[n:]
	}
	return l, true
}

// take fills v with numbers of l and gives the others; false: there are too few, or a length is none.
func take(v reflect.Value, l []int) ([]int, bool) {
	ok := true
	switch v.Kind() {
	case reflect.Int:
		if len(l) == 0 {
			return nil, false
		}
		v.SetInt(int64(l[0]))
		return l[1:], true
	case reflect.Struct:
		for k := 0; ok && k < v.NumField(); k++ {
			l, ok = take(v.Field(k), l)
		}
	case reflect.Slice:
		if len(l) == 0 || l[0] < 0 || l[0] >= len(l) && l[0] > 0 {
			return nil, false
		}
		v.Set(reflect.MakeSlice(v.Type(), l[0], l[0]))
		l = l[1:]
		for k := 0; ok && k < v.Len(); k++ {
			l, ok = take(v.Index(k), l)
		}
	}
	return l, ok
}

func modelDecode(b []byte) *api.Program {
	l, ok := split(b)
	if !ok || len(b) > api.MaxBytes {
		return nil
	}
	p := &api.Program{}
	if l, ok = take(reflect.ValueOf(p).Elem(), l); !ok || len(l) > 0 {
		return nil
	}
	return p
}

// same tells whether two programs have the same numbers in the same places; nil lists are as empty ones.
func same(p, q *api.Program) bool {
	if p == nil || q == nil {
		return p == q
	}
	return reflect.DeepEqual(numbersOf(reflect.ValueOf(*p)), numbersOf(reflect.ValueOf(*q)))
}

// holdBytes holds Decode of b against the model, and tells whether b is a program's.
func holdBytes(t *testing.T, b []byte) bool {
	t.Helper()
	p, err := code.Decode(b)
	want := modelDecode(b)
	if !same(p, want) || (err == nil) != (want != nil) || err != nil && !refused(err) {
		t.Fatalf("P9.1: Decode of %x: %+v, %v, the model %+v", b, p, err, want)
	}
	return err == nil
}

func TestAgainstModel(t *testing.T) {
	d := dice(9)
	for range 1500 {
		p := d.program()
		b, err := code.Encode(p)
		if want := modelEncode(p); err != nil || !bytes.Equal(b, want) {
			t.Fatalf("P9.1: Encode of %+v: %x, %v, the model %x", p, b, err, want)
		}
		if q, err := code.Decode(b); err != nil || !same(p, q) {
			t.Fatalf("P9.1: Decode of %x: %+v, %v, want %+v", b, q, err, p)
		}
	}
}

// All short bytes of a few kinds: small lengths, a number below 0, bytes behind which another comes.
func TestAllShortBytes(t *testing.T) {
	kinds := []byte{0, 1, 2, 4, 128, 255}
	taken := 0
	var b []byte
	var grow func()
	grow = func() {
		if holdBytes(t, b) {
			taken++
		}
		if len(b) == 7 {
			return
		}
		for _, x := range kinds {
			b = append(b, x)
			grow()
			b = b[:len(b)-1]
		}
	}
	grow()
	if taken == 0 {
		t.Error("P9.1: none of them is a program")
	}
}

// Bytes of programs with one byte changed, taken out or put in.
func TestSpoiltBytes(t *testing.T) {
	d := dice(99)
	taken := 0
	for range 400 {
		was := modelEncode(d.program())
		for range 50 {
			b := bytes.Clone(was)
			k := d.roll(len(b))
			switch d.roll(4) {
			case 0:
				b[k] = byte(d.roll(256))
			case 1:
				b[k] ^= 1 << d.roll(8)
			case 2:
				b = append(b[:k], b[k+1:]...)
			case 3:
				b = append(b[:k:k], append([]byte{byte(d.roll(256))}, b[k:]...)...)
			}
			if holdBytes(t, b) {
				taken++
			}
		}
	}
	if taken == 0 {
		t.Error("P9.1: none of them is a program")
	}
}

// Bytes of no plan: small ones mostly, so that lists find parts.
func TestRolledBytes(t *testing.T) {
	d := dice(999)
	for range 60000 {
		b := make([]byte, d.roll(60))
		for k := range b {
			b[k] = byte(d.roll(1 << (1 + d.roll(8))))
		}
		holdBytes(t, b)
	}
}
