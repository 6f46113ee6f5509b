package tests

import (
	"math"
	"testing"

	"loop.example/g03008/impl"
)

// Numbers around the limits of loads, needs, days, food and trips.
var (
	edgeLoads = []int{math.MinInt, math.MinInt + 1, -10000, -1, 0, 1, 2, 5, 6, 7, 24, 200, 999, 1000, 1001, 9999, 10000, 10001, 1 << 32, math.MaxInt - 1, math.MaxInt}
	edgeNeeds = []int{math.MinInt, math.MinInt + 1, -100, -1, 0, 1, 2, 3, 7, 99, 100, 101, 1 << 32, 1 << 62, math.MaxInt}
	edgeDays  = []int{math.MinInt, math.MinInt + 1, -1000, -1, 0, 1, 2, 3, 4, 5, 50, 500, 999, 1000, 1001, 5000, 1 << 32, 1 << 61, math.MaxInt}
	edgeTrips = []int{math.MinInt, -20, -1, 0, 1, 2, 19, 20, 21, 1 << 32, math.MaxInt}
)

func isWithin(n int, low int, high int) bool {
	return low <= n && n <= high
}

// outDaysOf is OutDays, told by going a day farther as long as the load lasts.
func outDaysOf(load int, need int) int {
	if !isWithin(load, 0, 10000) || !isWithin(need, 1, 100) {
		return 0
	}
	days := 0
	for need*(days+1)+need*(days+1) <= load {
		days++
	}
	return days
}

func spareAtOf(load int, need int, days int) int {
	if !isWithin(load, 0, 10000) || !isWithin(need, 1, 100) || !isWithin(days, 0, 1000) {
		return -1
	}
	return max(load-need*days-need*days, -1)
}

// tripsForOf is TripsFor, told by bringing food trip by trip.
func tripsForOf(load int, need int, days int, food int) int {
	spare := spareAtOf(load, need, days)
	if spare < 0 || !isWithin(food, 0, 10000) {
		return -1
	}
	trips := 0
	for brought := 0; brought < food; brought += spare {
		if spare == 0 {
			return -1
		}
		trips++
	}
	return trips
}

// farthestByOf is FarthestBy, told by trying each d and e.
func farthestByOf(load int, need int, trips int) int {
	if !isWithin(trips, 0, 20) || !isWithin(load, 0, 1000) || !isWithin(need, 1, 100) {
		return -1
	}
	for d := load / need; d >= 0; d-- {
		for e := 0; e <= d; e++ {
			s := spareAtOf(load, need, e)
			m := max(0, need*e-(trips*s-need*e))
			if s != -1 && trips*s >= need*e && load-need*(d-e) >= need*(d-e)+m {
				return d
			}
		}
	}
	return -2
}

func TestOutDays(t *testing.T) {
	for _, c := range [][3]int{
		{24, 3, 4}, {23, 3, 3}, {25, 3, 4}, {29, 3, 4}, {30, 3, 5},
		{0, 3, 0}, {1, 1, 0}, {2, 1, 1}, {3, 1, 1}, {5, 3, 0}, {6, 3, 1}, {7, 3, 1},
		{10000, 1, 5000}, {9999, 1, 4999}, {10001, 1, 0}, {-1, 1, 0},
		{10000, 100, 50}, {9999, 100, 49}, {200, 100, 1}, {199, 100, 0}, {10000, 101, 0}, {10000, 0, 0}, {10000, -1, 0},
		{-10000, -100, 0}, {10001, 101, 0}, {10001, 0, 0}, {-1, 0, 0},
	} {
		if got := impl.OutDays(c[0], c[1]); got != c[2] {
			t.Errorf("OutDays(%d, %d) is %d, not %d", c[0], c[1], got, c[2])
		}
	}
}

func TestSpareAt(t *testing.T) {
	for _, c := range [][4]int{
		{24, 3, 2, 12}, {24, 3, 0, 24}, {24, 3, 3, 6}, {24, 3, 4, 0}, {25, 3, 4, 1}, {23, 3, 4, -1}, {24, 3, 5, -1}, {24, 3, 1000, -1},
		{0, 1, 0, 0}, {0, 1, 1, -1}, {1, 1, 1, -1}, {2, 1, 1, 0}, {3, 1, 1, 1},
		{10000, 1, 1000, 8000}, {10000, 5, 1000, 0}, {10000, 5, 999, 10}, {10000, 1, 1001, -1}, {10000, 1, -1, -1},
		{10001, 1, 0, -1}, {-1, 1, 0, -1}, {10000, 100, 50, 0}, {10000, 100, 0, 10000}, {10000, 101, 0, -1}, {10000, 0, 0, -1}, {10000, -1, 5, -1},
		{10001, 101, 1001, -1}, {-1, -1, -1, -1}, {0, -1, 1000, -1},
	} {
		if got := impl.SpareAt(c[0], c[1], c[2]); got != c[3] {
			t.Errorf("SpareAt(%d, %d, %d) is %d, not %d", c[0], c[1], c[2], got, c[3])
		}
	}
}

func TestTripsFor(t *testing.T) {
	for _, c := range [][5]int{
		{24, 3, 2, 12, 1}, {24, 3, 2, 13, 2}, {24, 3, 2, 11, 1}, {24, 3, 2, 24, 2}, {24, 3, 2, 25, 3}, {24, 3, 2, 1, 1}, {24, 3, 2, 0, 0},
		{24, 3, 4, 0, 0}, {24, 3, 4, 1, -1}, {24, 3, 4, 10000, -1}, {24, 3, 4, -1, -1}, {24, 3, 4, 10001, -1},
		{24, 3, 5, 0, -1}, {24, 3, 5, 1, -1}, {24, 3, 1001, 0, -1}, {24, 3, -1, 0, -1},
		{24, 3, 0, 100, 5}, {24, 3, 0, 10000, 417}, {24, 3, 0, 10001, -1}, {24, 3, 0, -1, -1},
		{25, 3, 4, 10000, 10000}, {25, 3, 4, 9999, 9999}, {10000, 1, 0, 10000, 1}, {10000, 5, 1000, 0, 0}, {10000, 5, 1000, 1, -1},
		{0, 1, 0, 0, 0}, {0, 1, 0, 1, -1}, {10001, 3, 0, 0, -1}, {-1, 3, 0, 0, -1}, {24, 0, 0, 0, -1}, {24, 101, 0, 0, -1},
		{10001, 101, 1001, 10001, -1}, {-1, -1, -1, -1, -1},
	} {
		if got := impl.TripsFor(c[0], c[1], c[2], c[3]); got != c[4] {
			t.Errorf("TripsFor(%d, %d, %d, %d) is %d, not %d", c[0], c[1], c[2], c[3], got, c[4])
		}
	}
}

func TestFarthestBy(t *testing.T) {
	for _, c := range [][4]int{
		{24, 3, 0, 4}, {24, 3, 1, 6}, {24, 3, 2, 6}, {24, 3, 20, 7}, {10, 1, 0, 5}, {10, 1, 20, 9},
		{0, 1, 3, 0}, {0, 1, 0, 0}, {1, 1, 20, 0}, {5, 3, 20, 0}, {6, 3, 0, 1}, {6, 3, 20, 1}, {3, 100, 20, 0},
		{1000, 1, 20, 976}, {1000, 1, 0, 500}, {1000, 100, 0, 5}, {1000, 100, 20, 9}, {999, 1, 0, 499},
		{1001, 1, 0, -1}, {1001, 1, 20, -1}, {10000, 1, 0, -1}, {-1, 1, 0, -1},
		{24, 3, -1, -1}, {24, 3, 21, -1}, {24, 0, 1, -1}, {24, 101, 1, -1}, {24, -1, 1, -1},
		{1001, 101, 21, -1}, {-1, 0, -1, -1},
	} {
		if got := impl.FarthestBy(c[0], c[1], c[2]); got != c[3] {
			t.Errorf("FarthestBy(%d, %d, %d) is %d, not %d", c[0], c[1], c[2], got, c[3])
		}
	}
}

func TestFoodEaten(t *testing.T) {
	for _, c := range [][3]int{
		{3, 7, 21}, {1, 1, 1}, {3, 0, 0}, {1, 1000, 1000}, {100, 1000, 100000}, {100, 1, 100}, {99, 999, 98901},
		{0, 7, 0}, {-1, 7, 0}, {101, 7, 0}, {3, -1, 0}, {3, 1001, 0}, {-3, -7, 0}, {101, 1001, 0},
	} {
		if got := impl.FoodEaten(c[0], c[1]); got != c[2] {
			t.Errorf("FoodEaten(%d, %d) is %d, not %d", c[0], c[1], got, c[2])
		}
	}
}

// checkRelay checks all functions but FarthestBy.
func checkRelay(t *testing.T, load int, need int, days int, foods ...int) {
	t.Helper()
	if got, want := impl.OutDays(load, need), outDaysOf(load, need); got != want {
		t.Errorf("OutDays(%d, %d) is %d, not %d", load, need, got, want)
	}
	if got, want := impl.SpareAt(load, need, days), spareAtOf(load, need, days); got != want {
		t.Errorf("SpareAt(%d, %d, %d) is %d, not %d", load, need, days, got, want)
	}
	for _, food := range foods {
		if got, want := impl.TripsFor(load, need, days, food), tripsForOf(load, need, days, food); got != want {
			t.Errorf("TripsFor(%d, %d, %d, %d) is %d, not %d", load, need, days, food, got, want)
		}
	}
	eaten := 0
	if isWithin(need, 1, 100) && isWithin(days, 0, 1000) {
		eaten = need * days
	}
	if got := impl.FoodEaten(need, days); got != eaten {
		t.Errorf("FoodEaten(%d, %d) is %d, not %d", need, days, got, eaten)
	}
}

func TestRelaysOfSmallNumbers(t *testing.T) {
	for load := -2; load <= 60; load++ {
		for need := -1; need <= 12; need++ {
			for days := -1; days <= 12; days++ {
				checkRelay(t, load, need, days, -1, 0, 1, 2, 3, 7, 24, 60, 100)
			}
		}
	}
}

func TestRelaysOfEdges(t *testing.T) {
	for _, load := range edgeLoads {
		for _, need := range edgeNeeds {
			for _, days := range edgeDays {
				checkRelay(t, load, need, days, math.MinInt, -1, 0, 1, 9999, 10000, 10001, math.MaxInt)
			}
			for _, trips := range edgeTrips {
				if got, want := impl.FarthestBy(load, need, trips), farthestByOf(load, need, trips); got != want {
					t.Errorf("FarthestBy(%d, %d, %d) is %d, not %d", load, need, trips, got, want)
				}
			}
		}
	}
}

func TestFarthestByIsTheGreatest(t *testing.T) {
	for load := -1; load <= 80; load++ {
		for need := range 12 {
			for trips := -1; trips <= 21; trips++ {
				if got, want := impl.FarthestBy(load, need, trips), farthestByOf(load, need, trips); got != want {
					t.Errorf("FarthestBy(%d, %d, %d) is %d, not %d", load, need, trips, got, want)
				}
			}
		}
	}
	throw := dice()
	for range 300 {
		load, need, trips := throw(1001), 5+throw(96), throw(21)
		if got, want := impl.FarthestBy(load, need, trips), farthestByOf(load, need, trips); got != want {
			t.Errorf("FarthestBy(%d, %d, %d) is %d, not %d", load, need, trips, got, want)
		}
	}
}

func TestNoRelayIsWorseThanGoingAlone(t *testing.T) {
	for load := 0; load <= 1000; load += 3 {
		for need := 1; need <= 100; need += 1 + need/4 {
			alone := impl.OutDays(load, need)
			if got := impl.FarthestBy(load, need, 0); got != alone {
				t.Errorf("with a load of %d and a need of %d, one gets %d days away alone, and %d without a trip", load, need, alone, got)
			}
			before := alone
			for trips := 1; trips <= 20; trips++ {
				got := impl.FarthestBy(load, need, trips)
				if got < before {
					t.Errorf("with a load of %d and a need of %d, one gets %d days away with %d trips, and %d with one less", load, need, got, trips, before)
				}
				before = got
			}
		}
	}
}

func TestTripsBringTheFood(t *testing.T) {
	throw := dice()
	for range 20000 {
		load, need, days, food := throw(10001), 1+throw(100), throw(60), throw(10001)
		spare, trips := impl.SpareAt(load, need, days), impl.TripsFor(load, need, days, food)
		if (spare < 0) != (days > impl.OutDays(load, need)) {
			t.Errorf("SpareAt(%d, %d, %d) is %d, but OutDays is %d", load, need, days, spare, impl.OutDays(load, need))
		}
		if spare >= 0 && spare+2*impl.FoodEaten(need, days) != load {
			t.Errorf("SpareAt(%d, %d, %d) is %d, and FoodEaten is %d", load, need, days, spare, impl.FoodEaten(need, days))
		}
		if trips >= 0 && (trips*spare < food || trips > 0 && (trips-1)*spare >= food) {
			t.Errorf("TripsFor(%d, %d, %d, %d) is %d, where each leaves %d", load, need, days, food, trips, spare)
		}
	}
}
