package info_test

import (
	"testing"
	"time"
	_ "time/tzdata"

	"noontide/api"
	"noontide/book"
	"noontide/info"
	"noontide/load"
)

// places are zones as the data base has them: by the wall clock, by that of standard time, and by that of universal time.
const places = `
Rule US 1918 1919 - Mar lastSun 2:00 1:00 D
Rule US 1918 1919 - Oct lastSun 2:00 0 S
Rule US 1942 only - Feb 9 2:00 1:00 W
Rule US 1945 only - Aug 14 23:00u 1:00 P
Rule US 1945 only - Sep 30 2:00 0 S
Rule US 1967 2006 - Oct lastSun 2:00 0 S
Rule US 1967 1973 - Apr lastSun 2:00 1:00 D
Rule US 1974 only - Jan 6 2:00 1:00 D
Rule US 1975 only - Feb lastSun 2:00 1:00 D
Rule US 1976 1986 - Apr lastSun 2:00 1:00 D
Rule US 1987 2006 - Apr Sun>=1 2:00 1:00 D
Rule US 2007 max - Mar Sun>=8 2:00 1:00 D
Rule US 2007 max - Nov Sun>=1 2:00 0 S
Rule NYC 1920 only - Mar lastSun 2:00 1:00 D
Rule NYC 1920 only - Oct lastSun 2:00 0 S
Rule NYC 1921 1966 - Apr lastSun 2:00 1:00 D
Rule NYC 1921 1954 - Sep lastSun 2:00 0 S
Rule NYC 1955 1966 - Oct lastSun 2:00 0 S
Zone America/New_York -4:56:02 - LMT 1883 Nov 18 17:00u
 -5:00 US E%sT 1920
 -5:00 NYC E%sT 1942
 -5:00 US E%sT 1946
 -5:00 NYC E%sT 1967
 -5:00 US E%sT
Rule Aus 1917 only - Jan 1 2:00s 1:00 D
Rule Aus 1917 only - Mar lastSun 2:00s 0 S
Rule Aus 1942 only - Jan 1 2:00s 1:00 D
Rule Aus 1942 only - Mar lastSun 2:00s 0 S
Rule Aus 1942 only - Sep 27 2:00s 1:00 D
Rule Aus 1943 1944 - Mar lastSun 2:00s 0 S
Rule Aus 1943 only - Oct 3 2:00s 1:00 D
Rule AN 1971 1985 - Oct lastSun 2:00s 1:00 D
Rule AN 1972 only - Feb 27 2:00s 0 S
Rule AN 1973 1981 - Mar Sun>=1 2:00s 0 S
Rule AN 1982 only - Apr Sun>=1 2:00s 0 S
Rule AN 1983 1985 - Mar Sun>=1 2:00s 0 S
Rule AN 1986 1989 - Mar Sun>=15 2:00s 0 S
Rule AN 1986 only - Oct 19 2:00s 1:00 D
Rule AN 1987 1999 - Oct lastSun 2:00s 1:00 D
Rule AN 1990 1995 - Mar Sun>=1 2:00s 0 S
Rule AN 1996 2005 - Mar lastSun 2:00s 0 S
Rule AN 2000 only - Aug lastSun 2:00s 1:00 D
Rule AN 2001 2007 - Oct lastSun 2:00s 1:00 D
Rule AN 2006 only - Apr Sun>=1 2:00s 0 S
Rule AN 2007 only - Mar lastSun 2:00s 0 S
Rule AN 2008 max - Apr Sun>=1 2:00s 0 S
Rule AN 2008 max - Oct Sun>=1 2:00s 1:00 D
Zone Australia/Sydney 10:04:52 - LMT 1895 Feb
 10:00 Aus AE%sT 1971
 10:00 AN AE%sT
Rule Finland 1942 only - Apr 2 24:00 1:00 S
Rule Finland 1942 only - Oct 4 1:00 0 -
Rule Finland 1981 1982 - Mar lastSun 2:00 1:00 S
Rule Finland 1981 1982 - Sep lastSun 3:00 0 -
Rule EU 1977 1980 - Apr Sun>=1 1:00u 1:00 S
Rule EU 1977 only - Sep lastSun 1:00u 0 -
Rule EU 1978 only - Oct 1 1:00u 0 -
Rule EU 1979 1995 - Sep lastSun 1:00u 0 -
Rule EU 1981 max - Mar lastSun 1:00u 1:00 S
Rule EU 1996 max - Oct lastSun 1:00u 0 -
Zone Europe/Helsinki 1:39:49 - LMT 1878 May 31
 1:39:49 - HMT 1921 May
 2:00 Finland EE%sT 1983
 2:00 EU EE%sT
`

// Promise 36.1: what Go's own data base tells of places, from their first change on.
func TestPlaces(t *testing.T) {
	table, fault := load.Source(places)
	if fault.Err != api.OK {
		t.Fatal(fault)
	}
	b := book.New(table)
	last := time.Date(2400, 1, 1, 0, 0, 0, 0, time.UTC).Unix()
	for name, least := range map[string]int{"America/New_York": 900, "Australia/Sydney": 800, "Europe/Helsinki": 800} {
		place, err := time.LoadLocation(name)
		if err != nil {
			t.Fatal(err)
		}
		zone, _ := b.Find(name)
		first, _ := info.At(table, zone, minT)
		seen := 0
		for i, ok := info.Behind(table, zone, first); ok && i.Span.From < last; i, ok = info.Behind(table, zone, i) {
			seen++
			comparePlace(t, place, i)
		}
		if seen < least {
			t.Errorf("%s has but %d", name, seen)
		}
	}
}

// comparePlace asks Go at both ends of an info, and week by week.
func comparePlace(t *testing.T, place *time.Location, i api.Info) {
	t.Helper()
	const week = 7 * 24 * hour
	for s := i.Span.From; ; s = min(s+week, i.Span.To-1) {
		at := time.Unix(s, 0).In(place)
		abbr, off := at.Zone()
		if abbr != i.Value.Abbr || int64(off) != i.Value.Off || at.IsDST() != (i.Value.Save != 0) {
			t.Fatalf("%s at %d: %v; not %d, %s", place, s, i, off, abbr)
		}
		if s == i.Span.To-1 {
			return
		}
	}
}
