import Derived.Test.YtoomnhclaofgaaaGreatIr
import Derived.Deep.Cut
/-
  laidOut.
-/
namespace Go.Proofs.YtoomnhclaofgaaaGreat
open Go.RowKit
set_option linter.unusedVariables false

theorem lies_self (bs : List Int) : Lies bs 0 bs := ⟨by simp [cut], by simp⟩
theorem getL_one (bs : List Int) (x : Nat) : getL bs x 1 0 0 = bs.getD x 0 := by simp [getL]

/-- Where laidOut stands. -/
structure LO (w : World) (ib bb nb : Nat) (bs : List Int) (ka : Option Addr) (kn : Nat) (key : List Int) (va : Option Addr) (vn : Nat) (val : List Int) (ic : Array Value) (W : World) : Prop where
  gr : w.grownBy W none
  bi : Box W 40 ib ic
  hb : Has W (some ⟨bb, 0, none⟩) nb bs
  hk : Has W ka kn key
  hv : Has W va vn val
theorem LO.step {w : World} {ib bb nb : Nat} {bs : List Int} {ka : Option Addr} {kn : Nat} {key : List Int} {va : Option Addr} {vn : Nat} {val : List Int} {ic : Array Value} {W W' : World} (h : LO w ib bb nb bs ka kn key va vn val ic W) (hf : W.grownBy W' none) : LO w ib bb nb bs ka kn key va vn val ic W' :=
  ⟨gb_trans h.gr hf, h.bi.kept hf (by simp), h.hb.kept0 hf, h.hk.kept0 hf, h.hv.kept0 hf⟩
theorem LO.ic {w : World} {ib bb nb : Nat} {bs : List Int} {ka : Option Addr} {kn : Nat} {key : List Int} {va : Option Addr} {vn : Nat} {val : List Int} {x0 x1 x2 x3 x4 x5 x6 x7 : Value} {W : World} (h : LO w ib bb nb bs ka kn key va vn val #[x0, x1, x2, x3, x4, x5, x6, x7] W) : W.cell? ⟨ib, 0, none⟩ = some x0 ∧ W.cell? ⟨ib, 1, none⟩ = some x1 ∧ W.cell? ⟨ib, 2, none⟩ = some x2 ∧ W.cell? ⟨ib, 3, none⟩ = some x3 ∧ W.cell? ⟨ib, 4, none⟩ = some x4 ∧ W.cell? ⟨ib, 5, none⟩ = some x5 ∧ W.cell? ⟨ib, 6, none⟩ = some x6 ∧ W.cell? ⟨ib, 7, none⟩ = some x7 :=
  ⟨h.bi.cell 0, h.bi.cell 1, h.bi.cell 2, h.bi.cell 3, h.bi.cell 4, h.bi.cell 5, h.bi.cell 6, h.bi.cell 7⟩
theorem LO.by {w : World} {ib bb nb : Nat} {bs : List Int} {ka : Option Addr} {kn : Nat} {key : List Int} {va : Option Addr} {vn : Nat} {val : List Int} {ic : Array Value} {W : World} (h : LO w ib bb nb bs ka kn key va vn val ic W) (i : Nat) (hi : i < nb) (z : Int) (hz : bs.getD i 0 = z) : W.cell? ⟨bb, i, none⟩ = some (.int .u8 z) := by
  obtain ⟨b', o', e1, e2⟩ := h.hb.2 (by omega)
  cases e1
  have := e2 i hi
  rw [Nat.zero_add, hz] at this
  exact this

/-- What an item without links says of its own bytes. -/
structure Says (bs : List Int) (t : It) : Prop where
  z8 : getL bs 0 8 0 0 = 0
  z4 : getL bs 8 4 0 0 = 0
  gn : getL bs 12 4 0 0 = t.gn
  ex : getL bs 16 8 0 0 = t.ex
  to : getL bs 24 8 0 0 = t.to
  tk : getL bs 32 8 0 0 = t.tk
  fl : getL bs 40 4 0 0 = t.fl
  zz : getL bs 52 4 0 0 = 0
  kl : bs.getD 44 0 = t.key.length
  st : bs.getD 45 0 = t.st
  ms : bs.getD 46 0 = t.ms
  cl : bs.getD 47 0 = t.cl
  vl : getL bs 48 4 0 0 = t.val.length
  ky : cut bs 56 t.key.length = t.key
  vy : cut bs (56 + t.key.length) t.val.length = t.val
  e1 : bs.getD (56 + t.key.length + t.val.length) 0 = 13
  e2 : bs.getD (57 + t.key.length + t.val.length) 0 = 10
  ln : bs.length = 58 + t.key.length + t.val.length
set_option maxHeartbeats 4000000 in
theorem says_of (t : It) (h0 : t.l0 = 0) (h1 : t.l1 = 0) (h2 : t.l2 = 0) (hI : IsI t.L.flatten 0 t) : Says t.L.flatten t := by
  have hl := It.len t
  have hz : ∀ (i x : Nat) (z : Int), t.L[i]? = some (be 4 z) → ((ns t.key.length t.val.length).take i).sum = x → 0 ≤ z → z < 4294967296 → getL t.L.flatten x 4 0 0 = z := by
    intro i x z h1 h2 h3 h4
    have := lies_get (lies_self t.L.flatten) i x 4 z h1 (by rw [It.lens]; exact h2) h3 (by rw [pw4]; exact h4)
    rwa [Nat.zero_add] at this
  have ex := hI.expiry
  have to := hI.touched
  have tk := hI.token
  have fl := hI.flags
  have kl := hI.kl
  have vl := hI.vl
  have st := hI.state
  have ms := hI.marks
  have ky := hI.key
  have vy := hI.value
  have cl : getL t.L.flatten (0 + 47) 1 0 0 = t.cl := lies_get hI.lies 11 47 1 _ rfl (by rw [It.lens]; rfl) hI.cl.1 (by rw [pw1]; exact hI.cl.2)
  simp only [Nat.zero_add] at ex to tk fl kl vl st ms ky vy cl
  rw [getL_one] at kl st ms cl
  have he : cut t.L.flatten (56 + t.key.length + t.val.length) 2 = [13, 10] := by
    have hc := cut_seg t.L 16 (be 2 3338) rfl
    rw [It.lens, be_len] at hc
    have e : ((ns t.key.length t.val.length).take 16).sum = 56 + t.key.length + t.val.length := by simp [ns]; omega
    rw [e] at hc
    rw [hc]
    decide
  have g1 := getD_cut (zs := t.L.flatten) (x := 56 + t.key.length + t.val.length) (n := 2) (i := 0) (by omega)
  have g2 := getD_cut (zs := t.L.flatten) (x := 56 + t.key.length + t.val.length) (n := 2) (i := 1) (by omega)
  rw [he] at g1 g2
  rw [Nat.add_zero] at g1
  refine ⟨?_, hz 2 8 0 (by rw [← h2]; rfl) rfl (by omega) (by omega), hz 3 12 t.gn rfl rfl hI.gn.1 hI.gn.2, ex, to, tk, fl, hz 13 52 0 rfl rfl (by omega) (by omega), kl, st, ms, cl, vl, ky, vy, ?_, ?_, hl⟩
  · rw [getL_cut _ _ _ (by omega)]
    have e : cut t.L.flatten 0 8 = be 4 0 ++ be 4 0 := by
      have e2 : t.L.flatten = [] ++ ((be 4 0 ++ be 4 0) ++ (t.L.drop 2).flatten) := by
        simp [It.L, h0, h1]
      rw [e2]
      exact cut_app _ _ _ _ _ rfl (by simp [be_len])
    rw [e]
    decide
  · rw [← g1]; rfl
  · rw [show 57 + t.key.length + t.val.length = 56 + t.key.length + t.val.length + 1 by omega, ← g2]; rfl

end Go.Proofs.YtoomnhclaofgaaaGreat
