package ratio_test

import (
	"math/big"
	"testing"

	"litmus/ratio"
	"litmus/whole"
)

func TestFloorAndCeil(t *testing.T) {
	for _, c := range []struct {
		what        string
		a           ratio.Rat
		floor, ceil whole.Int
	}{
		{"the chapter's example", rat(neg(3), 2), neg(2), neg(1)},
		{"the chapter's example, not reduced", rat(neg(6), 4, 0), neg(2), neg(1)},
		{"positive", rat(pos(3), 2), pos(1), pos(2)},
		{"0", ratio.Rat{}, pos(), pos()},
		{"-0", rat(neg(0, 0), 7), pos(), pos()},
		{"between 0 and 1", rat(pos(1), 7), pos(), pos(1)},
		{"between -1 and 0", rat(neg(1), 7), neg(1), pos()},
		{"almost 1", rat(pos(6), 7), pos(), pos(1)},
		{"almost -1", rat(neg(6), 7), neg(1), pos()},
		{"an integer", rat(pos(5), 1), pos(5), pos(5)},
		{"a negative integer", rat(neg(5), 1, 0), neg(5), neg(5)},
		{"an integer that isn't reduced", rat(pos(14), 7), pos(2), pos(2)},
		{"a negative one", rat(neg(14), 7), neg(2), neg(2)},
		{"a Den of 0", rat(neg(5, 0), 0, 0), neg(5), neg(5)},
		{"a carry", rat(pos(0xFFFFFFFF, 0xFFFFFFFF, 1), 0, 2), pos(0xFFFFFFFF), pos(0, 1)},
		{"a negative carry", rat(neg(0xFFFFFFFF, 0xFFFFFFFF, 1), 0, 2), neg(0, 1), neg(0xFFFFFFFF)},
	} {
		isInt(t, c.what+", Floor", ratio.Floor(c.a), c.floor)
		isInt(t, c.what+", Ceil", ratio.Ceil(c.a), c.ceil)
	}
	check := func(a ratio.Rat) {
		// With a positive divisor, math/big's Div rounds down.
		floor := new(big.Int).Div(toBig(a).Num(), toBig(a).Denom())
		isInt(t, "Floor", ratio.Floor(a), fromInt(floor))
		if !toBig(a).IsInt() {
			floor.Add(floor, big.NewInt(1))
		}
		isInt(t, "Ceil", ratio.Ceil(a), fromInt(floor))
	}
	smalls(t, func(a, _ ratio.Rat) { check(a) })
	samples(t, 4, func(a, _, _ ratio.Rat) { check(a) })
}

func TestWhole(t *testing.T) {
	for _, c := range []struct {
		a    ratio.Rat
		want whole.Int
	}{
		{ratio.Rat{}, pos()},
		{rat(neg(0, 0), 7), pos()},
		{rat(pos(), 0, 0), pos()},
		{rat(pos(5), 1), pos(5)},
		{rat(neg(5, 0), 0), neg(5)},
		{rat(neg(14, 0), 7, 0), neg(2)},
		{rat(pos(0, 0, 6), 0, 3), pos(0, 2)},
	} {
		got, ok := ratio.Whole(c.a)
		isInt(t, "Whole", got, c.want)
		if !ok {
			t.Errorf("Whole(%v): got false", c.a)
		}
	}
	for _, a := range []ratio.Rat{
		rat(pos(1), 2), rat(neg(1), 2), rat(neg(3), 2), rat(pos(15), 7), rat(neg(6, 0), 4, 0),
		rat(pos(1), 0, 1), rat(pos(1, 1), 0, 1),
	} {
		got, ok := ratio.Whole(a)
		isInt(t, "Whole", got, pos())
		if ok {
			t.Errorf("Whole(%v): got true", a)
		}
	}
	check := func(a ratio.Rat) {
		exact := toBig(a)
		want := pos()
		if exact.IsInt() {
			want = fromInt(exact.Num())
		}
		got, ok := ratio.Whole(a)
		isInt(t, "Whole", got, want)
		if ok != exact.IsInt() {
			t.Errorf("Whole(%v): got %v", a, ok)
		}
	}
	smalls(t, func(a, _ ratio.Rat) { check(a) })
	samples(t, 3, func(a, _, _ ratio.Rat) { check(a) })
}
