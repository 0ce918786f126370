package flow

import (
	"math"
	"testing"

	"bailey/api"
)

// entersRow is a thread, a gate, what it would become, and the word that this breaks, if any.
type entersRow struct {
	w, gate, next Who
	breaks        string
}

func wantEnters(t *testing.T, rows map[string]entersRow) {
	t.Helper()
	for name, row := range rows {
		wantRow(t, name, Enters(row.w, row.gate, row.next), entersByWords(row.w, row.gate, row.next), row.breaks)
	}
}

var (
	also8 = of(2, cat(8, 4))
	pp    = Who{plain, plain}
	pt    = Who{plain, tainted}
	tt    = Who{tainted, tainted}
	ot    = Who{owned, tainted}
)

// P10.4: each word alone.
func TestEnters(t *testing.T) {
	wantEnters(t, map[string]entersRow{
		"all alike":                               {pp, pp, pp, ""},
		"all alike, tainted":                      {tt, tt, tt, ""},
		"next's label at High":                    {pp, pp, Who{at7(api.High), plain}, nextRight},
		"next's label below Star":                 {Who{at7(-1), plain}, Who{at7(-1), plain}, Who{at7(-1), plain}, nextRight},
		"next's label has Def at High":            {pp, pp, Who{of(api.High), plain}, nextRight},
		"next's label has the ID 0":               {pp, pp, Who{of(2, cat(0, 4)), plain}, nextRight},
		"next's clearance at High":                {pp, pp, Who{plain, at7(api.High)}, nextClearOK},
		"next's clearance has Def at High":        {pp, pp, Who{plain, of(api.High)}, nextClearOK},
		"next's clearance has an ID over MaxCat":  {pp, pp, Who{plain, of(2, cat(api.MaxCat+1, 4))}, nextClearOK},
		"next's clearance has a Star":             {pp, ot, Who{owned, owned}, nextPure},
		"next's clearance has a Star behind more": {pp, Who{of(2, cat(9, 0)), plain}, Who{plain, of(2, cat(7, 3), cat(9, 0))}, nextPure},
		"next's label has a Star":                 {pp, ot, Who{owned, tainted}, ""},
		"next's label has a Star of nobody's":     {pp, pp, Who{owned, tainted}, leastLabel},
		"above the gate's clearance":              {tt, Who{owned, plain}, pp, labelGate},
		"above the gate's clearance by Def":       {Who{mild, mild}, pp, Who{mild, mild}, labelGate},
		"above next's label":                      {tt, Who{plain, tainted}, Who{plain, tainted}, leastLabel},
		"above next's label by the gate's":        {pp, tt, Who{plain, tainted}, leastLabel},
		"above next's label by Def":               {Who{mild, mild}, Who{mild, mild}, Who{plain, mild}, leastLabel},
		"above next's clearance":                  {tt, Who{plain, tainted}, Who{tainted, plain}, leastClear},
		"above next's clearance by the gate's":    {pp, tt, Who{tainted, plain}, leastClear},
		"above next's clearance by Def":           {Who{mild, mild}, Who{mild, mild}, Who{mild, plain}, leastClear},
		"above both clearances":                   {pp, Who{also8, plain}, Who{also8, also8}, leastClears},
		"above both clearances by Def":            {Who{plain, low}, Who{mild, plain}, Who{mild, mild}, leastClears},
		"above the gate's clearance alone":        {Who{plain, also8}, Who{also8, plain}, Who{also8, also8}, ""},
		"above the thread's clearance alone":      {Who{plain, low}, pp, pp, ""},
		"above each, but not above their Join":    {Who{plain, of(2, cat(8, 4))}, Who{of(2, cat(8, 4), cat(9, 4)), of(2, cat(9, 4))}, Who{of(4), of(4)}, ""},
		// Neither of these two is one of the chapter's words.
		"next's clearance above both clearances": {pp, pp, Who{plain, of(4)}, ""},
		"next's label above its clearance":       {pp, pp, Who{of(4), plain}, ""},
	})
	for name, l := range notRight() {
		next := Who{l, plain}
		wantRow(t, "label: "+name, Enters(pp, pp, next), entersByWords(pp, pp, next), nextRight)
		next = Who{plain, l}
		wantRow(t, "clearance: "+name, Enters(pp, pp, next), entersByWords(pp, pp, next), nextClearOK)
	}
}

// P10.4: who owns the category.
func TestEntersOwned(t *testing.T) {
	atLow := at7(api.Low)
	wantEnters(t, map[string]entersRow{
		"the thread alone, out":                 {ot, Who{tainted, tainted}, pp, ""},
		"the thread alone, down to Low":         {ot, tt, Who{atLow, atLow}, ""},
		"the thread alone, to own it":           {ot, tt, Who{owned, tainted}, ""},
		"the thread alone, to be tainted":       {ot, tt, tt, ""},
		"the gate alone, out":                   {tt, ot, pp, ""},
		"the gate alone, down to Low":           {tt, ot, Who{atLow, atLow}, ""},
		"the gate alone, to own it":             {tt, ot, Who{owned, tainted}, ""},
		"the gate alone, to be tainted":         {tt, ot, tt, ""},
		"both, out":                             {ot, ot, pp, ""},
		"both, to own it":                       {ot, ot, Who{owned, tainted}, ""},
		"both, beside another":                  {Who{of(2, cat(7, 0), cat(8, 4)), of(4)}, Who{owned, of(4)}, Who{owned, of(4)}, leastLabel},
		"neither, out":                          {tt, pt, pt, leastLabel},
		"neither, to own it":                    {pt, pt, Who{owned, tainted}, leastLabel},
		"neither, the greater one counts":       {Who{at7(3), tainted}, tt, Who{at7(3), tainted}, leastLabel},
		"neither, at the greater one":           {Who{at7(3), tainted}, tt, tt, ""},
		"neither, the other one is greater":     {tt, Who{at7(3), tainted}, Who{at7(3), tainted}, leastLabel},
		"neither, down to Low":                  {pt, pt, Who{atLow, tainted}, leastLabel},
		"each owns another, both are owned":     {Who{of(2, cat(7, 0), cat(8, 4)), of(4)}, Who{of(2, cat(7, 4), cat(8, 0)), of(4)}, Who{of(2, cat(7, 0), cat(8, 0)), of(4)}, ""},
		"owned, but not the clearance's bar":    {Who{owned, atLow}, Who{tainted, atLow}, pp, ""},
		"Def is owned by the thread":            {Who{of(api.Star), plain}, Who{of(4), of(4)}, Who{of(1), of(1)}, ""},
		"Def is owned by the gate":              {Who{of(4), of(4)}, Who{of(api.Star), of(4)}, Who{of(1), of(1)}, ""},
		"Def is owned by neither":               {Who{of(4), of(4)}, Who{of(1), of(4)}, Who{of(1), of(4)}, leastLabel},
		"Def is owned, a category isn't":        {Who{of(0, cat(7, 2)), plain}, pp, Who{of(1), of(3)}, leastLabel},
		"Def and a category are owned, crossed": {Who{of(0, cat(7, 4)), of(4)}, Who{of(4, cat(7, 0)), of(4)}, Who{of(1), of(1)}, ""},
	})
}

// P10.4: a thread and a gate with labels of any form and any int.
func TestEntersAnyForm(t *testing.T) {
	wantEnters(t, map[string]entersRow{
		"the thread at High":                 {Who{at7(5), plain}, Who{plain, at7(5)}, Who{owned, tainted}, ""},
		"the thread above High":              {Who{at7(6), plain}, Who{plain, of(4, cat(7, 6))}, Who{of(4), tainted}, leastLabel + "; " + leastClear},
		"the gate at High":                   {pp, Who{at7(5), plain}, Who{owned, tainted}, ""},
		"the gate's Def at High":             {pp, Who{of(5), plain}, Who{of(1), of(1)}, ""},
		"both below Star":                    {Who{at7(-1), plain}, Who{at7(-7), plain}, Who{owned, at7(1)}, ""},
		"the thread below Star, gate at Low": {Who{at7(-1), plain}, Who{at7(1), plain}, Who{owned, at7(1)}, leastLabel},
		"the thread's label repeats":         {Who{of(2, cat(9, 2), cat(7, 0), cat(7, 4)), plain}, tt, pp, ""},
		"the thread's label repeats, unlike": {Who{of(2, cat(9, 2), cat(7, 4), cat(7, 0)), plain}, Who{plain, tainted}, Who{plain, tainted}, leastLabel},
		"the gate's label repeats":           {tt, Who{of(2, cat(9, 2), cat(7, 0), cat(7, 4)), tainted}, pp, ""},
		"the gate's label repeats, unlike":   {pp, Who{of(2, cat(9, 2), cat(7, 4), cat(7, 0)), tainted}, Who{owned, tainted}, leastLabel},
		"the thread's clearance repeats":     {Who{plain, of(2, cat(8, 4), cat(7, 2), cat(8, 1))}, Who{also8, plain}, Who{also8, also8}, ""},
		"the gate's clearance repeats":       {tt, Who{owned, of(2, cat(9, 2), cat(7, 4), cat(7, 1))}, pp, ""},
		"the gate's clearance, unlike":       {tt, Who{owned, of(2, cat(9, 2), cat(7, 1), cat(7, 4))}, pp, labelGate},
		"clearances of any int":              {Who{plain, of(math.MinInt)}, Who{tainted, of(math.MaxInt)}, tt, ""},
		"labels of any int":                  {Who{of(math.MinInt), plain}, Who{of(math.MinInt), of(math.MinInt)}, Who{low, low}, ""},
		"the greatest label":                 {Who{of(math.MaxInt), of(math.MaxInt)}, Who{low, of(math.MaxInt)}, Who{of(4), of(4)}, leastLabel + "; " + leastClear},
	})
}
