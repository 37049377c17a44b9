import Derived.Test.YtoomnhclaofgaaaGreatTh
/-
  A full class: one is given, and taken again.
-/
namespace Go.Proofs.YtoomnhclaofgaaaGreat
open Go.RowKit
set_option linter.unusedVariables false

/-- What is known behind a Give and a Take of a full class. -/
structure Back (A : Ab) (k H pl i : Nat) (p j : Nat) : Prop where
  isH : IsH A H p j
  place : A.place p j = pl
  own : A.own p = k
  invG : Inv (A.given p j 1)
  nG : (A.given p j 1).n = A.n
  npG : p < (A.given p j 1).np
  ownG : (A.given p j 1).own p = k
  eachG : j < (A.given p j 1).each k
  tknG : (A.given p j 1).tkn p j = false
  rowG : ((A.given p j 1).row k).getLast? = some ((A.given p j 1).num p j)
  hdlG : (A.given p j 1).hdl p j = H + 4294967296
  gen0 : A.gen p j = 0
  invT : Inv ((A.given p j 1).taken k p j)
  nT : ((A.given p j 1).taken k p j).n = A.n
  isT : IsH ((A.given p j 1).taken k p j) (H + 4294967296) p j
  plT : ((A.given p j 1).taken k p j).place p j = pl
  ownT : ((A.given p j 1).taken k p j).own p = k
  tkT : ((A.given p j 1).taken k p j).tk k = i
  rowT : ((A.given p j 1).taken k p j).row k = []

set_option maxHeartbeats 2000000 in
theorem fil_back {A0 A : Ab} {k i : Nat} (hF : Fil A0 A k i 0) (hk : k < A.n) {l : Nat} (hl : l < i) : Back A k (hN A0 k l) (plN A0 k l) i (l / A.each k) (l % A.each k) := by
  obtain ⟨hH, hpl, ho⟩ := hF.isH hl
  have htk := hF.tkk hk
  generalize l / A.each k = p at *
  generalize l % A.each k = j at *
  have hp := hH.hp
  have hj := hH.hk
  have hg0 := hF.gen p j hp
  have hr0 : A.row k = [] := by rw [hF.row]; simp
  have hI := hF.inv.give (v := 1) (by decide) hp hj hH.ht
  have gnum : ∀ q l, (A.given p j 1).num q l = A.num q l := by intro q l; simp only [Ab.num, Ab.place, Ab.given, Ab.push, Ab.stk, Ab.sgen, Ab.stkn]
  have gown : ∀ q, (A.given p j 1).own q = A.own q := by intro q; simp only [Ab.given, Ab.push, Ab.stk, Ab.sgen, Ab.stkn]
  have geach : ∀ q, (A.given p j 1).each q = A.each q := by intro q; simp only [Ab.each, Ab.given, Ab.push, Ab.stk, Ab.sgen, Ab.stkn]
  have gnp : (A.given p j 1).np = A.np := by simp only [Ab.given, Ab.push, Ab.stk, Ab.sgen, Ab.stkn]
  have gn : (A.given p j 1).n = A.n := by simp only [Ab.given, Ab.push, Ab.stk, Ab.sgen, Ab.stkn]
  have gtkn : (A.given p j 1).tkn p j = false := by simp [Ab.given, Ab.push, Ab.stk, Ab.sgen, Ab.stkn, upd2]
  have ggen : (A.given p j 1).gen p j = 1 := by simp [Ab.given, Ab.push, Ab.stk, Ab.sgen, Ab.stkn, upd2]
  have grow : (A.given p j 1).row k = [A.num p j] := by simp [Ab.given, Ab.push, Ab.stk, Ab.sgen, Ab.stkn, upd, ho, hr0]
  have gtk : (A.given p j 1).tk k = i - 1 := by simp [Ab.given, Ab.push, Ab.stk, Ab.sgen, Ab.stkn, upd, ho, htk]
  have gpl : (A.given p j 1).place p j = A.place p j := by simp only [Ab.place, Ab.given, Ab.push, Ab.stk, Ab.sgen, Ab.stkn]
  have hlast : ((A.given p j 1).row k).getLast? = some ((A.given p j 1).num p j) := by rw [grow, gnum]; rfl
  have hH2 : A.num p j = hN A0 k l := by
    have := hH.hH
    unfold Ab.hdl at this
    rw [hg0] at this
    omega
  have hjk : j < A.each k := by rw [← ho]; exact hj
  have hIt := hI.take (c := k) (p := p) (k := j) (by rw [gn]; exact hk) (by rw [gnp]; exact hp) (by rw [gown]; exact ho) (by rw [geach]; exact hjk) gtkn hlast
  have hhG : (A.given p j 1).hdl p j = hN A0 k l + 4294967296 := by
    unfold Ab.hdl; rw [ggen, gnum, hH2]; omega
  generalize hAG : A.given p j 1 = AG at *
  have tnum : ∀ q l, (AG.taken k p j).num q l = AG.num q l := by intro q l; simp only [Ab.num, Ab.place, Ab.taken, Ab.pop, Ab.stk, Ab.stkn]
  have town : ∀ q, (AG.taken k p j).own q = AG.own q := by intro q; simp only [Ab.taken, Ab.pop, Ab.stk, Ab.stkn]
  have teach : ∀ q, (AG.taken k p j).each q = AG.each q := by intro q; simp only [Ab.each, Ab.taken, Ab.pop, Ab.stk, Ab.stkn]
  have tnp : (AG.taken k p j).np = AG.np := by simp only [Ab.taken, Ab.pop, Ab.stk, Ab.stkn]
  have tn : (AG.taken k p j).n = AG.n := by simp only [Ab.taken, Ab.pop, Ab.stk, Ab.stkn]
  have ttkn : (AG.taken k p j).tkn p j = true := by simp [Ab.taken, Ab.pop, Ab.stk, Ab.stkn, upd2]
  have tgen : (AG.taken k p j).gen p j = AG.gen p j := by simp only [Ab.taken, Ab.pop, Ab.stk, Ab.stkn]
  have trow : (AG.taken k p j).row k = [] := by simp [Ab.taken, Ab.pop, Ab.stk, Ab.stkn, upd, grow]
  have ttk : (AG.taken k p j).tk k = i - 1 + 1 := by simp [Ab.taken, Ab.pop, Ab.stk, Ab.stkn, upd, gtk]
  have tpl : (AG.taken k p j).place p j = AG.place p j := by simp only [Ab.place, Ab.taken, Ab.pop, Ab.stk, Ab.stkn]
  have thd : (AG.taken k p j).hdl p j = AG.hdl p j := by unfold Ab.hdl; rw [tgen, tnum]
  constructor
  · exact hH
  · exact hpl
  · exact ho
  · rw [hAG]; exact hI
  · rw [hAG]; exact gn
  · rw [hAG, gnp]; exact hp
  · rw [hAG, gown]; exact ho
  · rw [hAG, geach]; exact hjk
  · rw [hAG]; exact gtkn
  · rw [hAG]; exact hlast
  · rw [hAG]; exact hhG
  · exact hg0
  · rw [hAG]; exact hIt
  · rw [hAG, tn]; exact gn
  · rw [hAG]
    exact ⟨by rw [tnp, gnp]; exact hp, by rw [teach, town, gown, geach, ho]; exact hjk, ttkn, by rw [thd, hhG]⟩
  · rw [hAG, tpl, gpl]; exact hpl
  · rw [hAG, town, gown]; exact ho
  · rw [hAG, ttk]; omega
  · rw [hAG]; exact trow

end Go.Proofs.YtoomnhclaofgaaaGreat
