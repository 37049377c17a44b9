import Derived.Test.YtoomnhclaofgaaaGreatIr
import Derived.Deep.RegionHeld3
/-
  right, made.
-/
namespace Go.Proofs.YtoomnhclaofgaaaGreat
open Go.RowKit
set_option linter.unusedVariables false

def okc (z : Int) : Int := if z ≤ 32 ∨ z = 127 then 107 else z
/-- A key made of bytes. -/
def keyOf (ys : List Int) : List Int := if ys = [] then [107] else (ys.take 250).map okc
theorem okc_ok (z : Int) (h : 0 ≤ z ∧ z < 256) : 33 ≤ okc z ∧ okc z ≠ 127 ∧ okc z < 256 := by
  unfold okc
  split <;> omega
theorem keyOf_legal (ys : List Int) (h : isBytes ys) : LegalP (keyOf ys) ∧ isBytes (keyOf ys) := by
  unfold keyOf
  by_cases e : ys = []
  · rw [if_pos e]
    exact ⟨⟨by decide, by decide, fun i hi => by
      have : i = 0 := by simp at hi; omega
      subst this; decide⟩, by intro z hz; simp at hz; omega⟩
  · rw [if_neg e]
    have hl : ((ys.take 250).map okc).length = min 250 ys.length := by simp
    have hpos : 0 < ys.length := List.length_pos_iff.2 e
    have hmem : ∀ z ∈ (ys.take 250).map okc, 33 ≤ z ∧ z ≠ 127 ∧ z < 256 := by
      intro z hz
      obtain ⟨x, hx, rfl⟩ := List.mem_map.1 hz
      exact okc_ok x (h x (List.mem_of_mem_take hx))
    refine ⟨⟨by omega, by omega, fun i hi => ?_⟩, fun z hz => ?_⟩
    · have := hmem _ (getD_mem hi)
      exact ⟨this.1, this.2.1⟩
    · have := hmem z hz
      omega

def kpre (ys : List Int) (k : Nat) : List Int := (ys.take k).map okc
theorem kpre_len {ys : List Int} {k : Nat} (h : k ≤ ys.length) : (kpre ys k).length = k := by simp [kpre]; omega
theorem kpre_zero (ys : List Int) : kpre ys 0 = [] := by simp [kpre]

set_option maxRecDepth 100000 in
set_option maxHeartbeats 2000000 in
theorem right_90 {w : World} {a : Option Addr} {n : Nat} {ys : List Int} (hy : Has w a n ys) (hyb : isBytes ys) (c : Nat) (hn : n ≤ 140737488351232) :
    Calls Tryz.prog 32 #[.slice a n c] w fun y w' => ∃ ao cap, y = .returned (.slice ao (keyOf ys).length cap) ∧ Own w.heap.size w' ao cap (keyOf ys) ∧ w.grownBy w' none := by
  have hl := hy.1
  go_enter Tryz.func32, Tryz.ntmps32
  go_wp2
  go_loopw [3, 4] (fun v c wr => ∃ (ao : Option Addr) (cap k : Nat), k ≤ n ∧ k ≤ 250 ∧ c = .int .i64 k ∧ v = .slice ao k cap ∧ Own w.heap.size wr ao cap (kpre ys k) ∧ w.grownBy wr none) (fun _ c _ => n - (intOf c).toNat)
  case atStart => exact ⟨none, 0, 0, by omega, by omega, rfl, rfl, by rw [kpre_zero]; exact Own.nil _ _, gb_refl _ _⟩
  case round =>
    obtain ⟨ao, cap, k, hk, hk250, rfl, rfl, hown, hF⟩ := hrel
    have hkl : (kpre ys k).length = k := kpre_len (by omega)
    by_cases hlt : k < n ∧ k < 250
    · obtain ⟨hlt1, hlt2⟩ := hlt
      obtain ⟨b, o, rfl, hc⟩ := hy.2 (by omega)
      have hck := gb_cellN hF (hc k hlt1)
      have hz := hyb (ys.getD k 0) (getD_mem (by omega))
      have hd1 : decide ((k : Int) < n) = true := by simp; omega
      have hd2 : decide ((k : Int) < 250) = true := by simp; omega
      have hsn : kpre ys (k + 1) = kpre ys k ++ [okc (ys.getD k 0)] := by
        have hkk : k < ys.length := by omega
        unfold kpre
        rw [List.take_add_one, List.map_append, List.getElem?_eq_getElem hkk]
        simp [List.getD, hkk]
      generalize ys.getD k 0 = z at *
      clear hc
      by_cases z1 : z ≤ 32
      · have e1 : decide (z ≤ 32) = true := by simpa using z1
        have hok : okc z = 107 := by unfold okc; (first | rw [if_pos (by omega)] | rw [if_neg (by omega)])
        rw [hok] at hsn
        clear hok
        go_wp2_with (at_builtin; go_must (refine wpList_push rfl _ _ rfl w.heap.size ao cap (kpre ys k) 107 (by rw [hkl]; rfl) hown (by rfl) (by omega) hF.size ?_))
        intro ao' cap' w' hown' hg'
        rw [← hsn] at hown'
        have hF' := gb_far hF hg' (fun k e => (hown.lt k e).1) (Nat.le_refl _)
        go_wp2
        go_roundw
        case rel => exact ⟨ao', cap', k + 1, by omega, by omega, by go_num, rfl, hown', hF'⟩
        case measure => simp [intOf]; omega
      · by_cases z2 : z = 127
        · have e1 : decide (z ≤ 32) = false := by simpa using z1
          have e2 : decide (z = 127) = true := by simpa using z2
          have hok : okc z = 107 := by unfold okc; (first | rw [if_pos (by omega)] | rw [if_neg (by omega)])
          rw [hok] at hsn
          clear hok
          go_wp2_with (at_builtin; go_must (refine wpList_push rfl _ _ rfl w.heap.size ao cap (kpre ys k) 107 (by rw [hkl]; rfl) hown (by rfl) (by omega) hF.size ?_))
          intro ao' cap' w' hown' hg'
          rw [← hsn] at hown'
          have hF' := gb_far hF hg' (fun k e => (hown.lt k e).1) (Nat.le_refl _)
          go_wp2
          go_roundw
          case rel => exact ⟨ao', cap', k + 1, by omega, by omega, by go_num, rfl, hown', hF'⟩
          case measure => simp [intOf]; omega
        · have e1 : decide (z ≤ 32) = false := by simpa using z1
          have e2 : decide (z = 127) = false := by simpa using z2
          have hok : okc z = z := by unfold okc; (first | rw [if_pos (by omega)] | rw [if_neg (by omega)])
          rw [hok] at hsn
          clear hok
          go_wp2_with (at_builtin; go_must (refine wpList_push rfl _ _ rfl w.heap.size ao cap (kpre ys k) z (by rw [hkl]; rfl) hown (by rfl) (by omega) hF.size ?_))
          intro ao' cap' w' hown' hg'
          rw [← hsn] at hown'
          have hF' := gb_far hF hg' (fun k e => (hown.lt k e).1) (Nat.le_refl _)
          go_wp2
          go_roundw
          case rel => exact ⟨ao', cap', k + 1, by omega, by omega, by go_num, rfl, hown', hF'⟩
          case measure => simp [intOf]; omega
    · have hkk : keyOf ys = if k = 0 then [107] else kpre ys k := by
        unfold keyOf kpre
        by_cases h0 : ys = []
        · have : n = 0 := by rw [← hl, h0]; rfl
          rw [if_pos h0, if_pos (by omega)]
        · have hpos : 0 < ys.length := List.length_pos_iff.2 h0
          have hnk : ¬ k = 0 := by omega
          rw [if_neg h0, if_neg hnk]
          congr 1
          rcases Nat.lt_or_ge k n with h1 | h1
          · have : k = 250 := by omega
            rw [this]
          · have : k = ys.length := by omega
            rw [this, List.take_length, List.take_of_length_le (by omega)]
      by_cases hk0 : k = 0
      · subst hk0
        rw [if_pos rfl] at hkk
        have HK : Hid (keyOf ys = [107]) := hkk
        have hown0 : Own w.heap.size wr ao cap [] := by rw [kpre_zero] at hown; exact hown
        have hd0 : ¬ (0 < n) := by omega
        have hn0 : n = 0 := by omega
        subst hn0
        clear hown hkk hlt
        go_wp2_with (at_builtin; go_must (refine wpList_push rfl _ _ rfl w.heap.size ao cap [] 107 (by rfl) hown0 (by rfl) (by simp) hF.size ?_))
        intro ao' cap' w' hown' hg'
        have hF' := gb_far hF hg' (fun k e => (hown0.lt k e).1) (Nat.le_refl _)
        go_wp2
        go_ret
        exact ⟨ao', cap', by rw [HK.out]; rfl, by rw [HK.out]; exact hown', hF'⟩
      · rw [if_neg hk0] at hkk
        have HK : Hid (keyOf ys = kpre ys k) := hkk
        have hz0 : decide ((k : Int) = 0) = false := by simp; omega
        have hz1 : ((k : Int) == 0) = false := by simp; omega
        rcases Nat.lt_or_ge k n with h1 | h1
        · have h2 : k = 250 := by omega
          subst h2
          clear hlt hkk
          go_wp2
          go_ret
          exact ⟨ao, cap, by rw [HK.out, hkl]; rfl, by rw [HK.out]; exact hown, hF⟩
        · have h2 : ¬ k < n := by omega
          clear hlt hkk
          go_wp2
          go_ret
          exact ⟨ao, cap, by rw [HK.out, hkl]; rfl, by rw [HK.out]; exact hown, hF⟩

end Go.Proofs.YtoomnhclaofgaaaGreat
