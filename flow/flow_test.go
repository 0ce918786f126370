package flow

import (
	"math"
	"testing"

	"bailey/api"
)

// wantRow asks whether a row breaks just these words (none, if it is empty), and whether the call says no if there is one.
func wantRow(t *testing.T, name string, got bool, words []word, breaks string) {
	t.Helper()
	if broken(words) != breaks {
		t.Errorf("%s: the row breaks %q, not %q", name, broken(words), breaks)
	}
	if got != (breaks == "") {
		t.Errorf("%s: %v, where this is broken: %q", name, got, breaks)
	}
}

func at7(level int) api.Label { return of(api.Plain, cat(7, level)) }

var (
	plain   = of(api.Plain)
	low     = of(api.Low)
	mild    = of(api.Mild)
	tainted = at7(api.Taint)
	owned   = at7(api.Star)
)

// P10.1
func TestChapterExample(t *testing.T) {
	w := Who{plain, plain}
	if !Reads(w, plain) || !Writes(w, plain) {
		t.Error("at Plain it reads and writes what is at Plain")
	}
	w = Who{tainted, tainted}
	if !Reads(w, plain) || Writes(w, plain) {
		t.Error("tainted it reads what is at Plain, and doesn't write it")
	}
}

// P10.1
func TestReadsAndWrites(t *testing.T) {
	for name, row := range map[string]struct {
		label, l      api.Label
		reads, writes bool
	}{
		"alike":                                 {plain, plain, true, true},
		"above it":                              {plain, tainted, false, false},
		"below it":                              {tainted, plain, true, false},
		"above it by Def":                       {plain, mild, false, false},
		"below it by Def":                       {mild, plain, true, false},
		"owned, at Taint":                       {owned, tainted, true, true},
		"owned, at Plain":                       {owned, plain, true, true},
		"owned, at Star":                        {owned, owned, true, true},
		"owned, at High":                        {owned, at7(api.High), true, true},
		"owned, above High":                     {owned, at7(6), false, false},
		"owned, below Star":                     {owned, at7(-1), true, false},
		"another one is owned":                  {of(2, cat(8, 0)), tainted, false, false},
		"owned, and Def is above it":            {owned, of(api.Mild, cat(7, api.Taint)), false, false},
		"owned, and Def is below it":            {owned, of(api.Low, cat(7, api.Taint)), true, false},
		"not owned, at High":                    {tainted, at7(api.High), false, false},
		"High, at High":                         {at7(api.High), at7(api.High), true, true},
		"High, at Taint":                        {at7(api.High), tainted, true, false},
		"Def is High":                           {of(api.High), of(api.High), true, true},
		"Def is High, of what is read alone":    {of(api.Taint), of(api.High), false, false},
		"Def is owned":                          {of(api.Star), of(api.High), true, true},
		"Def is owned, above High":              {of(api.Star), of(6), false, false},
		"Def is owned, a category isn't":        {of(api.Star, cat(7, 2)), of(api.High, cat(7, 4)), false, false},
		"Def is owned, a category is alike":     {of(api.Star, cat(7, 2)), of(api.High, cat(7, 2)), true, true},
		"one above, another below":              {of(2, cat(7, 4)), of(2, cat(8, 4)), false, false},
		"out of order, repeated, level of Def":  {of(2, cat(9, 0), cat(7, 4), cat(9, 4), cat(8, 2)), of(2, cat(9, 4), cat(8, 2), cat(8, 5), cat(7, 4)), true, true},
		"the first of an ID counts, of l":       {plain, of(2, cat(7, 4), cat(7, 2)), false, false},
		"the first of an ID counts, of the who": {of(2, cat(7, 4), cat(7, 0)), at7(api.High), false, false},
		"all of any int":                        {of(math.MaxInt, cat(1, math.MinInt)), of(math.MaxInt, cat(1, math.MinInt)), true, true},
		"the least below":                       {plain, of(math.MinInt), true, false},
		"the greatest above":                    {plain, of(math.MaxInt), false, false},
		"the ID of 0, and the greatest":         {of(2, cat(0, 0), cat(greatest, 4)), of(2, cat(0, 4), cat(greatest, 4)), true, true},
	} {
		// A clearance has no say in either.
		for _, clear := range []api.Label{of(math.MinInt), plain, of(math.MaxInt)} {
			w := Who{row.label, clear}
			if Reads(w, row.l) != row.reads || Writes(w, row.l) != row.writes {
				t.Errorf("%s: Reads %v, not %v; Writes %v, not %v", name, Reads(w, row.l), row.reads, Writes(w, row.l), row.writes)
			}
		}
	}
}

// P10.1: Writes at each of its words alone.
func TestWritesWords(t *testing.T) {
	for name, row := range map[string]struct {
		label, l api.Label
		breaks   string
	}{
		"it Reads, and its label isn't at most l": {tainted, plain, labelL},
		"so by Def": {mild, plain, labelL},
		"its label is at most l, and it doesn't Read": {plain, tainted, lRaise},
		"so by Def, again": {plain, mild, lRaise},
		"so, with a category that is owned, above High":   {owned, at7(6), lRaise},
		"so, with a category that is owned, below a Star": {owned, at7(-1), labelL},
	} {
		w := Who{row.label, row.label}
		wantRow(t, name, Writes(w, row.l), writesByWords(w, row.l), row.breaks)
	}
}

// notRight: labels that aren't Right, but lie between Plain and Plain with 7 and 9 at Taint.
func notRight() map[string]api.Label {
	return map[string]api.Label{
		"out of order":        of(2, cat(9, 4), cat(7, 4)),
		"repeated":            of(2, cat(7, 4), cat(7, 4)),
		"repeated, otherwise": of(2, cat(7, 4), cat(7, 3)),
		"the level of Def":    of(2, cat(7, 2)),
	}
}

// wide: a clearance above all that rows ask for.
var wide = of(api.High, cat(7, 6), cat(8, 6), cat(9, 6))

// P10.2
func TestMakes(t *testing.T) {
	for name, row := range map[string]struct {
		label, clear, l api.Label
		breaks          string
	}{
		"alike":                              {plain, plain, plain, ""},
		"up to the clearance":                {plain, tainted, tainted, ""},
		"between both":                       {plain, tainted, at7(api.Mild), ""},
		"a category that is owned":           {owned, tainted, tainted, ""},
		"an owned one at Low":                {owned, plain, at7(api.Low), ""},
		"an owned one, above the clearance":  {owned, plain, tainted, lClearance},
		"Def at High":                        {plain, wide, of(api.High), lRight},
		"a level of High":                    {plain, wide, at7(api.High), lRight},
		"a level below Star":                 {at7(-1), wide, at7(-1), lRight},
		"the ID 0":                           {plain, wide, of(2, cat(0, 4)), lRight},
		"the ID above MaxCat":                {plain, wide, of(2, cat(api.MaxCat+1, 4)), lRight},
		"seven categories":                   {plain, wide, of(2, cat(1, 3), cat(2, 3), cat(3, 3), cat(4, 3), cat(5, 3), cat(6, 3), cat(7, 3)), lRight},
		"six categories":                     {plain, wide, of(2, cat(1, 3), cat(2, 3), cat(3, 3), cat(4, 3), cat(5, 3), cat(6, 3)), ""},
		"a Star":                             {owned, tainted, owned, lPure},
		"a Star behind others":               {of(2, cat(9, 0)), wide, of(2, cat(7, 4), cat(8, 3), cat(9, 0)), lPure},
		"a Star ahead of others":             {of(2, cat(7, 0)), wide, of(2, cat(7, 0), cat(8, 3), cat(9, 4)), lPure},
		"the label is above by a category":   {tainted, tainted, plain, labelL},
		"the label is above by Def":          {mild, mild, plain, labelL},
		"the label is above by Def alone":    {of(3, cat(7, 2)), of(3, cat(7, 2)), plain, labelL},
		"above the clearance by a category":  {plain, plain, tainted, lClearance},
		"above the clearance by Def":         {plain, plain, mild, lClearance},
		"above the clearance by Def alone":   {low, of(2, cat(7, 3)), of(3, cat(7, 2)), lClearance},
		"one category up, another down":      {of(2, cat(7, 4)), of(2, cat(7, 4), cat(8, 4)), of(2, cat(8, 4)), labelL},
		"the label of any form":              {of(2, cat(9, 0), cat(7, 3), cat(7, 5), cat(8, 2)), tainted, tainted, ""},
		"the clearance of any form":          {plain, of(2, cat(9, 2), cat(7, 4), cat(7, 1)), tainted, ""},
		"the clearance of any form, below":   {plain, of(2, cat(9, 2), cat(7, 2), cat(7, 4)), tainted, lClearance},
		"the label and clearance of any int": {of(math.MinInt, cat(1, math.MinInt)), of(math.MaxInt, cat(7, math.MaxInt)), tainted, ""},
		"Def of Star":                        {of(api.Star), plain, plain, ""},
		"Def of High":                        {of(api.High), wide, of(api.Taint), labelL},
	} {
		w := Who{row.label, row.clear}
		wantRow(t, name, Makes(w, row.l), makesByWords(w, row.l), row.breaks)
	}
	for name, l := range notRight() {
		w := Who{plain, wide}
		wantRow(t, name, Makes(w, l), makesByWords(w, l), lRight)
	}
	// With Def at Star it is neither of both.
	w := Who{of(api.Star), wide}
	wantRow(t, "l's Def at Star", Makes(w, of(api.Star)), makesByWords(w, of(api.Star)), lRight+"; "+lPure)
}

// P10.2
func TestSpawns(t *testing.T) {
	for name, row := range map[string]struct {
		label, clearance, l, clear api.Label
		breaks                     string
	}{
		"alike":                                   {plain, plain, plain, plain, ""},
		"rising":                                  {low, of(4), plain, mild, ""},
		"a Star in l":                             {owned, tainted, owned, tainted, ""},
		"a Star in l, behind others":              {of(2, cat(9, 0)), wide, of(2, cat(7, 3), cat(9, 0)), of(3, cat(7, 4)), ""},
		"a Star in l that isn't owned":            {plain, tainted, owned, tainted, labelL},
		"an owned one is tainted":                 {owned, tainted, tainted, tainted, ""},
		"l at High":                               {plain, wide, of(2, cat(7, 5)), of(2, cat(7, 4)), lRight + "; " + lClear},
		"l's level below Star":                    {at7(-1), plain, at7(-1), plain, lRight},
		"l's ID 0":                                {plain, wide, of(2, cat(0, 3)), mild, lRight},
		"l's Def at Star":                         {of(api.Star), plain, of(api.Star), plain, lRight},
		"clear's level High":                      {plain, wide, plain, at7(api.High), clearRight},
		"clear's Def at High":                     {plain, wide, plain, of(api.High), clearRight},
		"clear's ID above MaxCat":                 {plain, wide, plain, of(2, cat(api.MaxCat+1, 4)), clearRight},
		"a Star in clear":                         {owned, tainted, owned, owned, clearPure},
		"a Star in clear, behind others":          {of(2, cat(9, 0)), wide, of(2, cat(9, 0)), of(2, cat(7, 3), cat(9, 0)), clearPure},
		"the label is above l by a category":      {tainted, tainted, plain, tainted, labelL},
		"the label is above l by Def":             {mild, mild, plain, mild, labelL},
		"l is above clear by a category":          {plain, tainted, tainted, plain, lClear},
		"l is above clear by Def":                 {plain, mild, mild, plain, lClear},
		"clear is above the clearance by one":     {plain, plain, plain, tainted, clearOver},
		"clear is above the clearance by Def":     {plain, plain, plain, mild, clearOver},
		"clear is above it by an owned one":       {owned, plain, owned, tainted, clearOver},
		"the label is of any form":                {of(2, cat(9, 0), cat(7, 3), cat(7, 5), cat(8, 2)), tainted, tainted, tainted, ""},
		"the clearance is of any form":            {plain, of(2, cat(9, 2), cat(7, 4), cat(7, 1)), plain, tainted, ""},
		"the clearance is of any form, and below": {plain, of(2, cat(9, 2), cat(7, 2), cat(7, 4)), plain, tainted, clearOver},
		"the label and the clearance of any int":  {of(math.MinInt), of(math.MaxInt, cat(7, math.MaxInt)), tainted, tainted, ""},
	} {
		w := Who{row.label, row.clearance}
		wantRow(t, name, Spawns(w, row.l, row.clear), spawnsByWords(w, row.l, row.clear), row.breaks)
	}
	for name, l := range notRight() {
		w, top := Who{plain, wide}, of(2, cat(7, 4), cat(9, 4))
		wantRow(t, "l: "+name, Spawns(w, l, top), spawnsByWords(w, l, top), lRight)
		wantRow(t, "clear: "+name, Spawns(w, plain, l), spawnsByWords(w, plain, l), clearRight)
	}
}

// P10.3
func TestTaints(t *testing.T) {
	for name, row := range map[string]struct {
		label, clear, l api.Label
		breaks          string
	}{
		"as it is":                           {tainted, tainted, tainted, ""},
		"up to the clearance":                {plain, tainted, tainted, ""},
		"between both":                       {plain, tainted, at7(api.Mild), ""},
		"a Star stays":                       {owned, tainted, owned, ""},
		"a Star is given up":                 {owned, tainted, at7(api.Low), ""},
		"a Star that it hasn't":              {plain, tainted, owned, labelL},
		"a Star above the clearance":         {owned, plain, tainted, lClearance},
		"a level of High":                    {plain, wide, at7(api.High), lRight},
		"a level below Star":                 {at7(-1), wide, at7(-1), lRight},
		"Def at High":                        {plain, wide, of(api.High), lRight},
		"Def at Star":                        {of(api.Star), wide, of(api.Star), lRight},
		"the ID 0":                           {plain, wide, of(2, cat(0, 4)), lRight},
		"the label is above by a category":   {tainted, tainted, plain, labelL},
		"the label is above by Def":          {mild, mild, plain, labelL},
		"above the clearance by a category":  {plain, plain, tainted, lClearance},
		"above the clearance by Def":         {plain, plain, mild, lClearance},
		"the label of any form":              {of(2, cat(9, 0), cat(7, 3), cat(7, 5), cat(8, 2)), tainted, tainted, ""},
		"the label of any form, above":       {of(2, cat(8, 2), cat(7, 5), cat(7, 0)), wide, tainted, labelL},
		"the clearance of any form":          {plain, of(2, cat(9, 2), cat(7, 4), cat(7, 1)), tainted, ""},
		"the label and clearance of any int": {of(math.MinInt), of(math.MaxInt), of(4, cat(7, 0)), ""},
		"the label above all":                {of(math.MaxInt), of(math.MaxInt), of(api.Taint), labelL},
	} {
		w := Who{row.label, row.clear}
		wantRow(t, name, Taints(w, row.l), taintsByWords(w, row.l), row.breaks)
	}
	for name, l := range notRight() {
		w := Who{plain, wide}
		wantRow(t, name, Taints(w, l), taintsByWords(w, l), lRight)
	}
}

// P10.3
func TestClears(t *testing.T) {
	for name, row := range map[string]struct {
		label, clearance, clear api.Label
		breaks                  string
	}{
		"as it is":                                {plain, tainted, tainted, ""},
		"down to the label":                       {plain, tainted, plain, ""},
		"an owned one, above the clearance":       {owned, plain, tainted, ""},
		"an owned one, down to Low":               {owned, tainted, at7(api.Low), ""},
		"another one, above the clearance":        {owned, plain, of(2, cat(8, 4)), clearJoin},
		"one that is tainted, up to that":         {tainted, plain, tainted, ""},
		"one at Mild, above that":                 {at7(api.Mild), plain, tainted, clearJoin},
		"an owned one, and another":               {owned, of(2, cat(8, 4)), of(2, cat(7, 4), cat(8, 4)), ""},
		"an owned one, and Def":                   {owned, plain, of(3, cat(7, 4)), clearJoin},
		"Def is owned":                            {of(api.Star), plain, of(4, cat(7, 1)), ""},
		"Def is owned, a category isn't":          {of(api.Star, cat(7, 2)), plain, of(4), clearJoin},
		"a level of High":                         {owned, plain, at7(api.High), clearRight},
		"Def at High":                             {plain, wide, of(api.High), clearRight},
		"a level below Star":                      {at7(-1), plain, at7(-1), clearRight},
		"the ID above MaxCat":                     {plain, wide, of(2, cat(api.MaxCat+1, 4)), clearRight},
		"a Star":                                  {owned, plain, owned, clearPure},
		"a Star behind others":                    {of(2, cat(9, 0)), wide, of(2, cat(7, 3), cat(9, 0)), clearPure},
		"the label is above by a category":        {tainted, tainted, plain, labelClear},
		"the label is above by Def":               {mild, mild, plain, labelClear},
		"above the clearance by a category":       {plain, plain, tainted, clearJoin},
		"above the clearance by Def":              {plain, plain, mild, clearJoin},
		"the label of any form":                   {of(2, cat(9, 0), cat(7, 0), cat(7, 5), cat(8, 2)), plain, of(2, cat(7, 4), cat(9, 4)), ""},
		"the label of any form, a later Star":     {of(2, cat(7, 2), cat(7, 0)), plain, tainted, clearJoin},
		"the clearance of any form":               {plain, of(2, cat(9, 2), cat(7, 4), cat(7, 1)), tainted, ""},
		"the clearance of any form, a later rise": {plain, of(2, cat(7, 2), cat(7, 4)), tainted, clearJoin},
		"the label and clearance of any int":      {of(math.MinInt), of(math.MaxInt), tainted, ""},
		"the clearance below all":                 {owned, of(math.MinInt), tainted, ""},
	} {
		w := Who{row.label, row.clearance}
		wantRow(t, name, Clears(w, row.clear), clearsByWords(w, row.clear), row.breaks)
	}
	for name, clear := range notRight() {
		w := Who{plain, wide}
		wantRow(t, name, Clears(w, clear), clearsByWords(w, clear), clearRight)
	}
}

// P10.2 to P10.4: PURE by Def, which Right hides from the calls, and by any of Cats.
func TestPure(t *testing.T) {
	for _, l := range append(oneCat(-1, 0, 1, 5, 6), of(2, cat(1, 3), cat(2, 0)), of(2, cat(1, 0), cat(1, 3)), of(2, cat(1, 3), cat(2, 4))) {
		if pure(l) != pureByWords(l) {
			t.Errorf("%v: %v", l, pure(l))
		}
	}
}
