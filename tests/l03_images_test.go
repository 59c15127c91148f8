package tests

import (
	"fmt"
	"math/rand"
	"slices"
	"testing"

	"loop.example/g01288/impl"
)

func TestImageOf(t *testing.T) {
	for _, c := range []struct {
		w     impl.Well
		twice int64
		river bool
		want  impl.Well
	}{
		{impl.Well{Rate: 5}, 6, false, impl.Well{X: 6, Rate: 5}},
		{impl.Well{Rate: 5}, 6, true, impl.Well{X: 6, Rate: -5}},
		{impl.Well{X: 3, Y: 7, Rate: -2}, -5, false, impl.Well{X: -8, Y: 7, Rate: -2}},
		{impl.Well{X: 3, Y: 7, Rate: -2}, -5, true, impl.Well{X: -8, Y: 7, Rate: 2}},
		{impl.Well{X: 4, Y: -9}, 8, true, impl.Well{X: 4, Y: -9, Rate: negativeZero}},
		{impl.Well{X: 4, Y: -9}, 8, false, impl.Well{X: 4, Y: -9}},
		{impl.Well{X: 4, Rate: negativeZero}, 8, true, impl.Well{X: 4}},
		{impl.Well{X: 4, Rate: negativeZero}, 8, false, impl.Well{X: 4, Rate: negativeZero}},
		{impl.Well{X: 100, Y: 100, Rate: impl.MaxSize}, 0, true, impl.Well{X: -100, Y: 100, Rate: -impl.MaxSize}},
		{impl.Well{X: 100, Y: -100, Rate: least}, 200, true, impl.Well{X: 100, Y: -100, Rate: -least}},
		{impl.Well{X: -100, Rate: 1}, -200, false, impl.Well{X: -100, Rate: 1}},
		{impl.Well{X: 100, Rate: 1}, 1, false, impl.Well{X: -99, Rate: 1}},
	} {
		image, code := impl.ImageOf(c.w, c.twice, c.river)
		wantWell(t, fmt.Sprint("ImageOf ", c.w, c.twice, c.river), image, code, c.want, impl.OK)
		back, code := impl.ImageOf(image, c.twice, c.river)
		wantWell(t, "the image of an image", back, code, c.w, impl.OK)
	}
}

func TestNoImage(t *testing.T) {
	for _, river := range []bool{false, true} {
		for x := int64(-100); x <= 100; x++ {
			w := impl.Well{X: int8(x), Y: 2, Rate: 3}
			for twice := int64(-1000); twice <= 1000; twice++ {
				_, code := impl.ImageOf(w, twice, river)
				want := int64(impl.ErrRange)
				if twice-x >= -100 && twice-x <= 100 {
					want = impl.OK
				}
				if code != want {
					t.Errorf("ImageOf %v %d: code %d, want %d", w, twice, code, want)
				}
			}
			for _, twice := range wrongTwices {
				image, code := impl.ImageOf(w, twice, river)
				wantWell(t, "ImageOf a wall too far away", image, code, impl.Well{}, impl.ErrRange)
			}
		}
		image, code := impl.ImageOf(impl.Well{X: -1, Rate: 1}, 100, river)
		wantWell(t, "ImageOf behind the last place", image, code, impl.Well{}, impl.ErrRange)
		for _, w := range wrongWells() {
			for _, twice := range []int64{0, 401} {
				image, code = impl.ImageOf(w, twice, river)
				wantWell(t, "ImageOf a wrong well", image, code, impl.Well{}, impl.ErrInvalid)
			}
		}
	}
}

func TestWithImages(t *testing.T) {
	v, w, u := impl.Well{X: 1, Y: 2, Rate: 3}, impl.Well{X: -4, Y: 5, Rate: 0}, impl.Well{X: 6, Y: -7, Rate: -8}
	for _, c := range []struct {
		wells []impl.Well
		twice int64
		river bool
		want  []impl.Well
	}{
		{nil, 6, true, nil},
		{[]impl.Well{}, 6, false, nil},
		{[]impl.Well{v}, 6, true, []impl.Well{v, {X: 5, Y: 2, Rate: -3}}},
		{[]impl.Well{v, w, u}, 6, true, []impl.Well{v, w, u, {X: 5, Y: 2, Rate: -3}, {X: 10, Y: 5, Rate: negativeZero}, {X: 0, Y: -7, Rate: 8}}},
		{[]impl.Well{u, w, v}, -1, false, []impl.Well{u, w, v, {X: -7, Y: -7, Rate: -8}, {X: 3, Y: 5}, {X: -2, Y: 2, Rate: 3}}},
		{[]impl.Well{v, v}, 2, false, []impl.Well{v, v, v, v}},
	} {
		all, code := impl.WithImages(c.wells, c.twice, c.river)
		wantWells(t, fmt.Sprint("WithImages ", c.wells, c.twice, c.river), all, code, c.want, impl.OK)
	}
	// No image has an error where there is none.
	all, code := impl.WithImages(nil, 401, true)
	wantWells(t, "WithImages without wells, and a wall too far away", all, code, nil, impl.OK)
	r := rand.New(rand.NewSource(13))
	for count := range 7 {
		wells := randomWells(r, count)
		for i := range wells {
			wells[i].X = int8(r.Intn(90))
		}
		want := slices.Clone(wells)
		for _, w := range wells {
			image, _ := impl.ImageOf(w, 7, true)
			want = append(want, image)
		}
		all, code = impl.WithImages(wells, 7, true)
		wantWells(t, "WithImages of several", all, code, want, impl.OK)
	}
}

func TestNoImages(t *testing.T) {
	near, far := impl.Well{X: 1, Rate: 1}, impl.Well{X: -100, Rate: 1}
	for name, c := range map[string]struct {
		wells []impl.Well
		twice int64
		want  int64
	}{
		"seven wells":                      {make([]impl.Well, 7), 0, impl.ErrLimit},
		"seven wells, a wall too far away": {make([]impl.Well, 7), 401, impl.ErrLimit},
		"seven wells, an image too far":    {append(make([]impl.Well, 6), far), 1, impl.ErrLimit},
		"many wells":                       {make([]impl.Well, 1000000), 0, impl.ErrLimit},
		"six wells":                        {make([]impl.Well, 6), 0, impl.OK},
		"a wall too far away":              {[]impl.Well{near}, 401, impl.ErrRange},
		"the first image too far":          {[]impl.Well{far, near}, 1, impl.ErrRange},
		"the last image too far":           {[]impl.Well{near, near, far}, 1, impl.ErrRange},
	} {
		for _, river := range []bool{false, true} {
			all, code := impl.WithImages(c.wells, c.twice, river)
			wantCode(t, "WithImages of "+name, code, c.want)
			if code != impl.OK && len(all) != 0 {
				t.Errorf("WithImages of %s: %v", name, all)
			}
		}
	}
	for _, w := range wrongWells() {
		for _, wells := range [][]impl.Well{{w}, {near, w}, append(make([]impl.Well, 20), w), {far, w}} {
			for _, twice := range []int64{1, 401} {
				all, code := impl.WithImages(wells, twice, true)
				wantWells(t, "WithImages of a wrong well", all, code, nil, impl.ErrInvalid)
			}
		}
	}
}
