package flow

import (
	"math"
	"testing"

	"bailey/api"
)

// entersRow is a thread, a gate, what it would become, and the word that this breaks, if any.
type entersRow struct {
	w, gate, next Who
	breaks        string
}

func wantEnters(t *testing.T, rows map[string]entersRow) {
	t.Helper()
	for name, row := range rows {
		wantRow(t, name, Enters(row.w, row.gate, row.next), entersByWords(row.w, row.gate, row.next), row.breaks)
	}
}

var (
	also8 = of(2, cat(8, 4))
	also9 = of(2, cat(9, 4))
	both8 = of(2, cat(8, 4), cat(9, 4))
	pp    = Who{plain, plain}
	pt    = Who{plain, tainted}
	pw    = Who{plain, wide}
	tt    = Who{tainted, tainted}
	ot    = Who{owned, tainted}
	op    = Who{owned, plain}
	mm    = Who{mild, mild}
	ss    = Who{of(api.Star), of(api.Star)}
)

// P10.4: next's label Right, its clearance Right and PURE, each alone.
func TestEntersRight(t *testing.T) {
	seven := of(2, cat(1, 3), cat(2, 3), cat(3, 3), cat(4, 3), cat(5, 3), cat(6, 3), cat(7, 3))
	star9 := of(2, cat(9, 0))
	wantEnters(t, map[string]entersRow{
		"all alike":                               {pp, pp, pp, ""},
		"all alike, tainted":                      {tt, tt, tt, ""},
		"next's label below Star":                 {Who{at7(-1), plain}, Who{at7(-1), plain}, Who{at7(-1), plain}, nextRight},
		"next's label has Def at Star":            {Who{of(api.Star), plain}, Who{of(api.Star), plain}, Who{of(api.Star), plain}, nextRight},
		"next's label has the ID 0":               {pw, pp, Who{of(2, cat(0, 4)), of(4)}, nextRight},
		"next's label has an ID over MaxCat":      {pw, pp, Who{of(2, cat(api.MaxCat+1, 4)), of(4)}, nextRight},
		"next's label has seven categories":       {pw, pp, Who{seven, of(4)}, nextRight},
		"next's label has six categories":         {pw, pp, Who{of(2, seven.Cats[1:]...), of(4)}, ""},
		"next's label at High":                    {pw, pp, Who{at7(api.High), of(4)}, nextRight + "; " + nextOver},
		"next's label has Def at High":            {pw, pp, Who{of(api.High), of(4)}, nextRight + "; " + nextOver},
		"next's clearance at High":                {pw, pp, Who{plain, at7(api.High)}, nextClearOK},
		"next's clearance has Def at High":        {pp, pw, Who{plain, of(api.High)}, nextClearOK},
		"next's clearance has an ID over MaxCat":  {pw, pp, Who{plain, of(2, cat(api.MaxCat+1, 4))}, nextClearOK},
		"next's clearance has the ID 0":           {pp, pw, Who{plain, of(2, cat(0, 4))}, nextClearOK},
		"next's clearance has seven categories":   {pp, pw, Who{plain, seven}, nextClearOK},
		"next's clearance has a Star":             {pp, ot, Who{owned, owned}, nextPure},
		"next's clearance has a Star behind more": {pw, Who{star9, plain}, Who{star9, of(2, cat(7, 3), cat(9, 0))}, nextPure},
		"next's label has a Star":                 {pp, ot, ot, ""},
		"next's label has a Star of nobody's":     {pp, pt, ot, leastLabel},
	})
	over := Who{plain, of(2, cat(7, 4), cat(9, 4))}
	for name, l := range notRight() {
		next := Who{l, over.Clear}
		wantRow(t, "label: "+name, Enters(over, pp, next), entersByWords(over, pp, next), nextRight)
		next = Who{plain, l}
		wantRow(t, "clearance: "+name, Enters(pp, over, next), entersByWords(pp, over, next), nextClearOK)
	}
}

// P10.4: the thread's label and the gate's clearance; the Lower and next's label.
func TestEntersLabels(t *testing.T) {
	wantEnters(t, map[string]entersRow{
		"above the gate's clearance":                  {tt, op, pp, labelGate},
		"above the gate's clearance by Def":           {mm, pp, mm, labelGate},
		"above the gate's clearance, owned by nobody": {tt, pp, tt, labelGate},
		"at the gate's clearance":                     {tt, Who{owned, tainted}, pp, ""},
		"the gate's label above its clearance":        {pt, Who{tainted, plain}, tt, ""},
		"above next's label":                          {tt, pt, pt, leastLabel},
		"above next's label by the gate's":            {pp, tt, pt, leastLabel},
		"above next's label by Def":                   {mm, mm, Who{plain, mild}, leastLabel},
		"above next's label by the gate's Def":        {pp, mm, Who{plain, mild}, leastLabel},
		"above next's label in one of two":            {Who{both8, wide}, pw, Who{also8, of(4)}, leastLabel},
		"at next's label in both":                     {Who{both8, wide}, pw, Who{both8, of(4)}, ""},
		"next's label above it":                       {pt, pt, tt, ""},
		"next's label above it by Def":                {Who{plain, mild}, pp, mm, ""},
	})
}

// P10.4: next's label and next's clearance.
func TestEntersNext(t *testing.T) {
	wantEnters(t, map[string]entersRow{
		"next's label above its clearance":             {pt, pt, Who{tainted, plain}, nextOver},
		"so by Def":                                    {pp, pp, Who{of(4), plain}, nextOver},
		"so by Def alone":                              {pt, pp, Who{of(3, cat(7, 2)), tainted}, nextOver},
		"so by one level":                              {pt, pt, Who{tainted, at7(api.Mild)}, nextOver},
		"so in one of two":                             {pw, pp, Who{both8, also9}, nextOver},
		"so by another one":                            {pw, pp, Who{also8, also9}, nextOver},
		"so by one that the thread owns":               {ot, pp, Who{tainted, plain}, nextOver},
		"so by one that the gate owns":                 {pp, ot, Who{tainted, plain}, nextOver},
		"so at the Lower":                              {tt, pt, Who{tainted, plain}, nextOver},
		"so at the Lower, by the gate's":               {pp, tt, Who{tainted, plain}, nextOver},
		"so at the Lower, by Def":                      {mm, mm, Who{mild, plain}, nextOver},
		"so, and the clearance is below the Lower":     {mm, mm, Who{of(4), low}, nextOver},
		"next's label at its clearance":                {pt, pt, tt, ""},
		"next's label below it":                        {pt, pt, Who{at7(api.Mild), tainted}, ""},
		"next's label with a Star, below it":           {op, op, Who{owned, at7(api.Low)}, ""},
		"next's label at Low, and its clearance there": {op, op, Who{at7(api.Low), at7(api.Low)}, ""},
		"next's label at Plain, and Low its clearance": {op, op, Who{plain, at7(api.Low)}, nextOver},
	})
}

// P10.4: next's clearance and the Join of both clearances.
func TestEntersClearances(t *testing.T) {
	p8, p9 := Who{plain, also8}, Who{plain, also9}
	wantEnters(t, map[string]entersRow{
		"above both clearances":                      {pp, pp, pt, nextClears},
		"so by Def":                                  {pp, pp, Who{plain, of(4)}, nextClears},
		"so by Def alone":                            {pt, pp, Who{plain, of(3, cat(7, 2))}, nextClears},
		"so by one level":                            {Who{plain, at7(api.Mild)}, pp, pt, nextClears},
		"so in one of two":                           {p8, p8, Who{plain, both8}, nextClears},
		"so by another one":                          {p8, p8, p9, nextClears},
		"so by one that both own":                    {op, op, ot, nextClears},
		"so by one that the thread owns":             {op, pp, pt, nextClears},
		"so by one that the gate owns":               {pp, op, pt, nextClears},
		"at the gate's, with the thread's own taint": {Who{tainted, plain}, pt, tt, ""},
		"so by the gate's own taint":                 {pp, Who{also8, plain}, Who{also8, also8}, nextClears},
		"so by the gate's own taint, by Def":         {Who{plain, low}, Who{mild, plain}, mm, nextClears},
		"so, with all at Star":                       {ss, ss, Who{low, low}, nextClears},
		"at the thread's, above the gate's":          {pt, pp, pt, ""},
		"at the gate's, above the thread's":          {pp, pt, pt, ""},
		"at the thread's, above the gate's, by Def":  {Who{plain, mild}, pp, Who{plain, mild}, ""},
		"at the gate's, above the thread's, by Def":  {pp, Who{plain, mild}, Who{plain, mild}, ""},
		"at the thread's, with the gate's own taint": {p8, Who{also8, plain}, Who{also8, also8}, ""},
		"above each, at their Join":                  {p8, p9, Who{plain, both8}, ""},
		"above each, tainted, at their Join":         {p8, Who{both8, also9}, Who{both8, both8}, ""},
		"above each, and one more than their Join":   {p8, p9, Who{plain, of(2, cat(7, 3), cat(8, 4), cat(9, 4))}, nextClears},
		"below both":                                 {pt, pt, pp, ""},
		"above the thread's clearance alone":         {Who{plain, low}, pp, pp, ""},
	})
}

// P10.4: who owns the category.
func TestEntersOwned(t *testing.T) {
	atLow := at7(api.Low)
	ll := Who{atLow, atLow}
	wantEnters(t, map[string]entersRow{
		"the thread alone, out":                 {ot, tt, pp, ""},
		"the thread alone, down to Low":         {ot, tt, ll, ""},
		"the thread alone, to own it":           {ot, tt, ot, ""},
		"the thread alone, to be tainted":       {ot, tt, tt, ""},
		"the gate alone, out":                   {tt, ot, pp, ""},
		"the gate alone, down to Low":           {tt, ot, ll, ""},
		"the gate alone, to own it":             {tt, ot, ot, ""},
		"the gate alone, to be tainted":         {tt, ot, tt, ""},
		"both, out":                             {ot, ot, pp, ""},
		"both, to own it":                       {ot, ot, ot, ""},
		"both, beside another":                  {Who{of(2, cat(7, 0), cat(8, 4)), of(4)}, Who{owned, of(4)}, Who{owned, of(4)}, leastLabel},
		"neither, out":                          {tt, pt, pt, leastLabel},
		"neither, to own it":                    {pt, pt, ot, leastLabel},
		"neither, the greater one counts":       {Who{at7(3), tainted}, tt, Who{at7(3), tainted}, leastLabel},
		"neither, at the greater one":           {Who{at7(3), tainted}, tt, tt, ""},
		"neither, the other one is greater":     {tt, Who{at7(3), tainted}, Who{at7(3), tainted}, leastLabel},
		"neither, down to Low":                  {pt, pt, Who{atLow, tainted}, leastLabel},
		"each owns another, both are owned":     {Who{of(2, cat(7, 0), cat(8, 4)), of(4)}, Who{of(2, cat(7, 4), cat(8, 0)), of(4)}, Who{of(2, cat(7, 0), cat(8, 0)), of(4)}, ""},
		"owned, and both clearances at Low":     {Who{owned, atLow}, Who{tainted, atLow}, ll, ""},
		"owned, and above both, which are Low":  {Who{owned, atLow}, Who{tainted, atLow}, pp, nextClears},
		"Def is owned by the thread":            {Who{of(api.Star), plain}, Who{of(4), of(4)}, Who{of(1), of(1)}, ""},
		"Def is owned by the gate":              {Who{of(4), of(4)}, Who{of(api.Star), of(4)}, Who{of(1), of(1)}, ""},
		"Def is owned by neither":               {Who{of(4), of(4)}, Who{of(1), of(4)}, Who{of(1), of(4)}, leastLabel},
		"Def is owned, a category isn't":        {Who{of(0, cat(7, 2)), plain}, pp, Who{of(1), plain}, leastLabel},
		"Def and a category are owned, crossed": {Who{of(0, cat(7, 4)), of(4)}, Who{of(4, cat(7, 0)), of(4)}, Who{of(1), of(1)}, ""},
	})
}

// P10.4: a thread and a gate with labels of any form and any int.
func TestEntersAnyForm(t *testing.T) {
	later8 := of(2, cat(8, 1), cat(7, 2), cat(8, 4))
	wantEnters(t, map[string]entersRow{
		"the thread at High":                  {Who{at7(5), plain}, Who{plain, at7(5)}, ot, ""},
		"the thread above High":               {Who{at7(6), plain}, Who{plain, of(4, cat(7, 6))}, Who{of(4), of(4)}, leastLabel},
		"the gate at High":                    {pp, Who{at7(5), plain}, op, ""},
		"the gate's Def at High":              {pp, Who{of(5), plain}, Who{of(1), of(1)}, ""},
		"both below Star":                     {Who{at7(-1), plain}, Who{at7(-7), plain}, Who{owned, at7(1)}, ""},
		"the thread below Star, gate at Low":  {Who{at7(-1), plain}, Who{at7(1), plain}, Who{owned, at7(1)}, leastLabel},
		"the thread's label repeats":          {Who{of(2, cat(9, 2), cat(7, 0), cat(7, 4)), plain}, tt, pp, ""},
		"the thread's label repeats, unlike":  {Who{of(2, cat(9, 2), cat(7, 4), cat(7, 0)), plain}, pt, pt, leastLabel},
		"the gate's label repeats":            {tt, Who{of(2, cat(9, 2), cat(7, 0), cat(7, 4)), tainted}, pp, ""},
		"the gate's label repeats, unlike":    {pp, Who{of(2, cat(9, 2), cat(7, 4), cat(7, 0)), tainted}, ot, leastLabel},
		"the thread's clearance repeats":      {Who{plain, of(2, cat(8, 4), cat(7, 2), cat(8, 1))}, Who{also8, plain}, Who{also8, also8}, ""},
		"the thread's clearance, unlike":      {Who{plain, later8}, pp, Who{plain, also8}, nextClears},
		"the gate's clearance repeats":        {tt, Who{owned, of(2, cat(9, 2), cat(7, 4), cat(7, 1))}, pp, ""},
		"the gate's clearance, unlike":        {tt, Who{owned, of(2, cat(9, 2), cat(7, 1), cat(7, 4))}, pp, labelGate},
		"the gate's clearance, unlike, above": {Who{of(2, cat(8, 1)), plain}, Who{plain, later8}, Who{plain, also8}, nextClears},
		"clearances of any int":               {Who{plain, of(math.MinInt)}, Who{tainted, of(math.MaxInt)}, tt, ""},
		"clearances below all":                {Who{low, of(math.MinInt)}, Who{low, low}, mm, nextClears},
		"clearances above all":                {Who{low, of(math.MaxInt)}, Who{low, of(math.MaxInt)}, Who{low, of(4)}, ""},
		"labels of any int":                   {Who{of(math.MinInt), plain}, Who{of(math.MinInt), of(math.MinInt)}, Who{low, low}, ""},
		"the greatest label":                  {Who{of(math.MaxInt), of(math.MaxInt)}, Who{low, of(math.MaxInt)}, Who{of(4), of(4)}, leastLabel},
	})
}
