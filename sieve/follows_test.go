package sieve_test

import (
	"bytes"
	"math/rand"
	"slices"
	"testing"

	"millhand/api"
	"millhand/sieve"
)

func TestEachKeyMayBe(t *testing.T) { // P13.4
	for name, keys := range good() {
		b := made(t, keys)
		for _, key := range keys {
			if is, err := sieve.May(b, key); !is || err != api.OK {
				t.Errorf("%s: %q may not be, error %d", name, key, err)
			}
		}
	}
	r := rand.New(rand.NewSource(613))
	for range 300 {
		keys := chances(r, r.Intn(api.MaxTabled+1))
		b := made(t, keys)
		for _, key := range keys {
			wantMay(t, b, key, true)
		}
	}
}

func TestNoKeysLetNoneThrough(t *testing.T) { // P13.4
	b := made(t, nil)
	for _, key := range odd() {
		wantMay(t, b, key, false)
	}
	for c := range 1 << 16 {
		wantMay(t, b, string([]byte{byte(c), byte(c >> 8)}), false)
	}
	r := rand.New(rand.NewSource(713))
	for range 10000 {
		wantMay(t, b, chance(r), false)
	}
}

func TestOrderCountsForNothing(t *testing.T) { // P13.4
	r := rand.New(rand.NewSource(813))
	for name, keys := range good() {
		want := made(t, keys)
		back := slices.Clone(keys)
		slices.Reverse(back)
		if !bytes.Equal(made(t, back), want) {
			t.Errorf("%s: the other way round, it is another sieve", name)
		}
		for range 20 {
			mixed := slices.Clone(keys)
			r.Shuffle(len(mixed), func(i, j int) { mixed[i], mixed[j] = mixed[j], mixed[i] })
			if !bytes.Equal(made(t, mixed), want) {
				t.Errorf("%s: in another order, it is another sieve", name)
			}
		}
	}
}

func TestHowOftenCountsByHowMany(t *testing.T) { // P13.4: the same keys, so many in all, each as often as you like
	r := rand.New(rand.NewSource(913))
	for range 300 {
		some := chances(r, 1+r.Intn(30))
		many := len(some) + r.Intn(api.MaxTabled-len(some)+1)
		fill := func() []string {
			keys := slices.Clone(some)
			for len(keys) < many {
				keys = append(keys, some[r.Intn(len(some))])
			}
			return keys
		}
		one, two := made(t, fill()), made(t, fill())
		if !bytes.Equal(one, two) || !bytes.Equal(one, plain(some, max(8, many))) {
			t.Errorf("%d keys, %d in all: two sieves", len(some), many)
		}
	}
}

func TestMostOthersAreHeldBack(t *testing.T) { // what a sieve is for: with as many bytes as keys, few that are not there get through
	b := made(t, numbered(1024))
	through := 0
	r := rand.New(rand.NewSource(1013))
	for range 10000 {
		if is, _ := sieve.May(b, chance(r)); is {
			through++
		}
	}
	if through == 0 || through > 500 {
		t.Errorf("%d of 10000 were let through", through)
	}
}
