package count

import (
	"suffrage/api"
	"suffrage/condorcet"
	"suffrage/contest"
	"suffrage/coombs"
	"suffrage/gregory"
	"suffrage/lists"
	"suffrage/meek"
	"suffrage/paths"
	"suffrage/phragmen"
	"suffrage/profile"
	"suffrage/ranked"
	"suffrage/runoff"
	"suffrage/single"
)

// method is what a rule does: its count of a profile for so many seats, in which lot decides.
type method struct {
	count func(p api.Profile, seats int, lot []int) (api.Outcome, api.Errno)
}

// methods returns the method of each rule.
func methods() map[uint8]method {
	return map[uint8]method{
		api.RulePlurality: {single.Plurality},
		api.RuleApproval:  {single.Approval},
		api.RuleScore:     {single.Score},
		api.RuleBorda:     {single.Borda},
		api.RuleCopeland:  {condorcet.Copeland},
		api.RuleMinimax:   {condorcet.Minimax},
		api.RuleSchulze:   {paths.Count},
		api.RulePairs:     {ranked.Count},
		api.RuleRunoff:    {runoff.Count},
		api.RuleCoombs:    {coombs.Count},
		api.RuleGregory:   {gregory.Count},
		api.RuleMeek:      {meek.Count},
		api.RulePhragmen:  {phragmen.Count},
		api.RuleDHondt:    {lists.DHondt},
		api.RuleSainte:    {lists.Sainte},
		api.RuleHare:      {lists.Hare},
	}
}

// check returns the error of c, otherwise that of p, otherwise ErrFit if p does not fit c.
func check(c api.Contest, p api.Profile) api.Errno {
	if e := contest.Check(c); e != api.OK {
		return e
	}
	if e := profile.Check(p); e != api.OK {
		return e
	}
	kind, _ := contest.Kind(c.Rule) // no error, as the contest is valid
	if p.Kind != kind || p.Cands != len(c.Cands) {
		return api.ErrFit
	}
	return api.OK
}
