package grow_test

import (
	"fmt"
	"math/big"
	"math/rand"
	"slices"
	"testing"

	"radome/grow"
)

func TestGW2LogEdges(t *testing.T) {
	numbers := []int64{1, 2, 3, 1<<50 - 1, 1 << 50, 1<<50 + 1, 1<<51 - 1, 1 << 51, 1<<51 + 1, top - 1, top}
	cases := []struct {
		bits int
		want [11]int64
	}{
		{0, [11]int64{0, 726817, 1151978, 36340875, 36340875, 36340875, 37067692, 37067692, 37067692, 45062685, 45062685}},
		{20, [11]int64{-14536350, -13809532, -13384371, 21804525, 21804525, 21804525, 22531342, 22531342, 22531342, 30526335, 30526335}},
		{30, [11]int64{-21804525, -21077707, -20652546, 14536350, 14536350, 14536350, 15263167, 15263167, 15263167, 23258160, 23258160}},
		{50, [11]int64{-36340875, -35614057, -35188896, 0, 0, 0, 726817, 726817, 726817, 8721810, 8721810}},
		{62, [11]int64{-45062685, -44335867, -43910706, -8721810, -8721810, -8721810, -7994992, -7994992, -7994992, 0, 0}},
	}
	for _, c := range cases {
		for i, x := range numbers {
			wantLog(t, x, c.bits, c.want[i])
		}
	}
}

// The logarithm of a power of two is that of two so often, with 20 bits behind the point.
func TestGW2LogOfPowersOfTwo(t *testing.T) {
	for bits := range 63 {
		for places := range 62 {
			all := new(big.Int).Mul(big.NewInt(int64(places-bits)), logOfTwo)
			wantLog(t, 1<<places, bits, nearest(all, power(30)).Int64())
		}
		if bits < 62 {
			wantLog(t, 1<<bits, bits, 0)
		}
	}
}

func TestGW2LogStepByStep(t *testing.T) {
	eachLog(20000, func(x int64, bits int) { wantLog(t, x, bits, steppedLog(x, bits)) })
}

// Numbers that stand for one another are told alike, as long as nothing is cut.
func TestGW2LogOfMovedNumbers(t *testing.T) {
	r := rand.New(rand.NewSource(4))
	for range 2000 {
		x, bits := 1+r.Int63n(1<<30), r.Intn(31)
		want, err := grow.Log(x, bits)
		if err != nil {
			t.Fatalf("Log(%d, %d): %v", x, bits, err)
		}
		for up := 1; up <= 31; up++ {
			wantLog(t, x<<up, bits+up, want)
		}
	}
}

// half is a number whose logarithm lies on just a half before it is rounded, in parts of 2^50.
type half struct {
	x    int64
	bits int
	want int64
}

// halves are such of numbers that are moved up, that are not moved, and that are moved down; above and below 0; with the even one above and below.
func halves() []half {
	return []half{
		{19093634978135, 0, 32065848}, {29337400933505, 30, 10711696}, {608408552149100, 0, 35695486}, {1032609154960939, 0, 36250180},
		{715839284890591, 20, 21329644}, {802773071683806, 20, 21449828}, {917975829700091, 30, 14322266}, {938498301594460, 30, 14345450},
		{1123624266399981, 50, -2122}, {706215281708502, 50, -489074}, {702207238103540, 62, -9216852}, {713973856695422, 62, -9199428},
		{1817656457740815, 0, 36843106}, {1574661066585602, 0, 36692628}, {1852398468520697, 20, 22326610}, {1478152930204368, 20, 22089958},
		{1824485083200043, 30, 15042514}, {1579543031914488, 50, 354998}, {1274548811066503, 50, 130034}, {1325575106606452, 62, -8550616},
		{3226357589907172, 0, 37444786}, {3478428340362352, 20, 22987316}, {3094642754962666, 30, 15596554}, {2348749716762534, 62, -7950792},
		{55480401792889952, 0, 40427644}, {53195698109076288, 20, 25847200}, {60800367181569120, 50, 4182784}, {41260760396511104, 62, -4945542},
		{3303015243888340992, 0, 44712714}, {2485395799964114944, 20, 29878146}, {3118318322136664064, 30, 22847852},
		{4537809922068834304, 50, 8704876}, {3519133980924502016, 62, -283512}, {3670865324295430144, 62, -239250},
	}
}

func TestGW2LogOfAHalfIsEven(t *testing.T) {
	for _, c := range halves() {
		wantLog(t, c.x, c.bits, c.want)
		if got := steppedLog(c.x, c.bits); got != c.want {
			t.Errorf("(%d, %d): %d by whole numbers; want %d", c.x, c.bits, got, c.want)
		}
	}
}

// firstAbove is a number, among those of as many bits as from, at which a logarithm goes above another one; the least change of a step is seen there.
func firstAbove(t *testing.T, n, from int64, bits int) int64 {
	from, to := from, 2*from-1
	for from < to {
		x := from + (to-from)/2
		if got, err := grow.Log(x, bits); err != nil {
			t.Fatalf("Log(%d, %d): %v", x, bits, err)
		} else if got > n {
			to = x
		} else {
			from = x + 1
		}
	}
	return from
}

func TestGW2LogWhereALastBitEnds(t *testing.T) {
	r := rand.New(rand.NewSource(3))
	for i := range 300 {
		from, bits := int64(1)<<(49+i%13), r.Intn(63)
		n, err := grow.Log(from+r.Int63n(from), bits)
		if err != nil {
			t.Fatal(err)
		}
		_, down := raised(from)
		part := int64(1) << max(down, 0)
		at := firstAbove(t, n, from, bits)
		for by := int64(-8); by <= 8; by++ {
			if x := at + by*part; x <= top {
				wantLog(t, x, bits, steppedLog(x, bits))
			}
			wantLog(t, at+by, bits, steppedLog(at+by, bits))
		}
	}
}

// What is moved down is cut: a logarithm changes only where nothing is cut, and all up to the next such number are told alike.
func TestGW2LogIsOfACutNumber(t *testing.T) {
	r := rand.New(rand.NewSource(5))
	for i := range 300 {
		down := 1 + i%11
		from, part, bits := int64(1)<<(50+down), int64(1)<<down, r.Intn(63)
		n, err := grow.Log(from+r.Int63n(from), bits)
		if err != nil {
			t.Fatal(err)
		}
		at := firstAbove(t, n-1, from, bits)
		if at%part != 0 {
			t.Errorf("with %d bits, the logarithm goes above %d at %d", bits, n-1, at)
		}
		if at < from+part {
			continue // the one before has fewer bits
		}
		for _, x := range []int64{at, at - part} {
			want, _ := grow.Log(x, bits)
			wantLog(t, x+1, bits, want)
			wantLog(t, x+part/2, bits, want)
			wantLog(t, x+part-1, bits, want)
		}
	}
}

func TestGW2LogErrors(t *testing.T) {
	wrong := func(x int64, bits int) {
		t.Helper()
		got, err := grow.Log(x, bits)
		wantWrong(t, fmt.Sprintf("Log(%d, %d)", x, bits), got, err)
	}
	for _, x := range append([]int64{0, -1, -2, -1 << 50, -top}, wrongNumbers...) {
		for bits := range 63 {
			wrong(x, bits)
		}
		for _, bits := range wrongBits {
			wrong(x, bits)
		}
	}
	for _, bits := range wrongBits {
		for _, x := range logs() {
			wrong(x, bits)
		}
	}
}

func TestGW4LogarithmsAreNear(t *testing.T) {
	check := func(x int64, bits int) {
		got, err := grow.Log(x, bits)
		exact := new(big.Int).Mul(big.NewInt(x), power(exactBits-bits))
		if err != nil || exactPower(got-2).Cmp(exact) > 0 || exactPower(got+2).Cmp(exact) < 0 {
			t.Errorf("Log(%d, %d): %d, %v is too far off", x, bits, got, err)
		}
	}
	for _, x := range logs() {
		for _, bits := range []int{0, 1, 20, 30, 50, 61, 62} {
			check(x, bits)
		}
	}
	r := rand.New(rand.NewSource(6))
	for range 3000 {
		check(1+r.Int63n(top)>>r.Intn(62), r.Intn(63))
	}
	for _, c := range halves() {
		check(c.x, c.bits)
	}
}

func TestGW4LogarithmsRise(t *testing.T) {
	r := rand.New(rand.NewSource(7))
	numbers := logs()
	for range 1000 {
		numbers = append(numbers, 1+r.Int63n(top)>>r.Intn(62))
	}
	for _, c := range halves() {
		for by := int64(-20); by <= 20; by++ {
			numbers = append(numbers, c.x+by)
		}
	}
	slices.Sort(numbers)
	for bits := range 63 {
		most := int64(least)
		for _, x := range numbers {
			got, err := grow.Log(x, bits)
			if err != nil || most != least && got < most-2 {
				t.Errorf("Log(%d, %d): %d, %v; a lesser number's is %d", x, bits, got, err, most)
			}
			most = max(most, got)
		}
	}
}
