import Derived.Test.YtobegepebochkaaGreatDoorBi
import Derived.Test.YtobegepebochkaaGreatDoorPap
set_option linter.unusedVariables false
set_option linter.unusedSimpArgs false
namespace Go.Proofs.YtobegepebochkaaGreatDoor
open Go.RowKit
def stM (v : Int) : List Value := [.int .i64 0, .slice none 0 0, .int .u64 0, .int .i64 0, .int .u64 0, .int .u64 0, .slice none 0 0, .bool false, .bool false, .slice none 0 0, .string ⟨#[]⟩, .int .i64 0, .string ⟨#[]⟩, .int .i64 0, .int .i64 (v), .int .i64 0]
theorem stM_len (v : Int) : (stM v).length = 16 := rfl
def mkS (L : Nat → Nat) (i k : Nat) : List Value := if k < L i then stM (-1000 - (i : Int)) else stM (-5000000 - (i : Int))
theorem mkS_len (L : Nat → Nat) (i k : Nat) : (mkS L i k).length = 16 := by unfold mkS; split <;> rfl
theorem mkS_lo {L : Nat → Nat} {i k : Nat} (h : k < L i) : mkS L i k = stM (-1000 - (i : Int)) := if_pos h
theorem mkS_hi {L : Nat → Nat} {i k : Nat} (h : ¬ k < L i) : mkS L i k = stM (-5000000 - (i : Int)) := if_neg h
theorem ty_57 : ∃ ti, Ty 57 86 ti (.agg #[.int .i64 0, .slice none 0 0, .int .u64 0, .int .i64 0, .int .u64 0, .int .u64 0, .slice none 0 0, .bool false, .bool false, .slice none 0 0, .string ⟨#[]⟩, .int .i64 0, .string ⟨#[]⟩, .int .i64 0, .int .i64 0, .int .i64 0]) 16 184 := ty_of Tryz.underlying57 (by kernel_rfl) rfl (by omega) (by omega)
theorem ty_29 : ∃ ti, Ty 29 57 ti (.slice none 0 0) 1 24 := ty_of Tryz.underlying29 (by kernel_rfl) rfl (by omega) (by omega)
def setL : List Value → Nat → List Value → List Value
  | xs, _, [] => xs
  | xs, o, v :: r => setL (xs.set o v) (o + 1) r
theorem setL_get : ∀ (vs xs : List Value) (o k : Nat), o + vs.length ≤ xs.length → (setL xs o vs)[k]? = if o ≤ k ∧ k < o + vs.length then vs[k - o]? else xs[k]?
  | [], xs, o, k, h => by simp [setL]; omega
  | v :: r, xs, o, k, h => by
    simp only [List.length_cons] at h
    rw [setL, setL_get r (xs.set o v) (o + 1) k (by simp; omega), List.getElem?_set]
    simp only [List.length_cons]
    by_cases h1 : o + 1 ≤ k ∧ k < o + 1 + r.length
    · rw [if_pos h1, if_pos (by omega), show k - o = (k - (o + 1)) + 1 by omega, List.getElem?_cons_succ]
    · rw [if_neg h1]
      by_cases h2 : o = k
      · subst h2
        rw [if_pos rfl, if_pos (by omega), if_pos (by omega), Nat.sub_self]
        rfl
      · rw [if_neg h2, if_neg (by omega)]
theorem row_setCells {B : Nat} {e : TypeId} {s g n c : Nat} : ∀ (vs : List Value) {w : World} {xs : List Value} (o : Nat), w.ownsRow B e s (.slice (some ⟨g, 0, none⟩) n c) n xs → (w.setCells g o vs).ownsRow B e s (.slice (some ⟨g, 0, none⟩) n c) n (setL xs o vs)
  | [], w, xs, o, h => h
  | v :: r, w, xs, o, h => row_setCells r (o + 1) (row_set h o v)
set_option maxRecDepth 100000 in
set_option maxHeartbeats 8000000 in
theorem look_115s {w : World} {bb : Nat} {b0 b1 b2 b3 t0 t1 t2 t3 s0 s1 s2 xv : Value} {n : Int} {K KX m : Nat} {V X : Nat → Value} {L : Nat → Nat} (h : Box w 31 bb (bkA b0 b1 b2 b3 t0 t1 t2 t3 s0 s1 s2 n)) (hr : w.ownsRow 0 57 1 s0 K (vsL V K)) (hx : w.ownsRow 0 57 1 xv KX (vsL X KX)) (hKX : KX ≤ K) (hK : K < 1000000) (hm : m ≤ 10003) (hL : ∀ i, i < KX → L i ≤ 1000000)
    (hvs : ∀ i, i < KX → w.ownsRow 0 86 16 (V i) (L i) (rng (L i) (mkS L i))) (hxs : ∀ i, i < KX → w.ownsRow 0 86 16 (X i) (L i + m) (rng (L i + m) (mkS L i))) :
    Calls Tryz.prog 115 #[.pointer (some ⟨bb, 0, none⟩), xv] w fun y w' => y = .returned (.bool true) ∧ w.grownBy w' none := by
  obtain ⟨hao, hcp, hdh, _, _, _, hposh⟩ := row_shape hr
  subst hdh
  obtain ⟨xao, xcp, hdx, _, _, _, hposx⟩ := row_shape hx
  subst hdx
  have c12 : w.cell? ⟨bb, 22, none⟩ = some (.slice hao K hcp) := h.cell 22
  go_enter Tryz.func115, Tryz.ntmps115
  go_wp2
  go_loopw [5] (fun v wr => ∃ i : Nat, i ≤ KX ∧ v = .int .i64 i ∧ w.grownBy wr none) (fun v _ => KX - (intOf v).toNat)
  case atStart => exact ⟨0, by omega, rfl, gb_refl _ _⟩
  case round =>
    obtain ⟨i, hi, rfl, hg⟩ := hrel
    by_cases hiK : i < KX
    · obtain ⟨gh, rfl⟩ := hposh (by omega)
      obtain ⟨gx, rfl⟩ := hposx (by omega)
      have hV := hvs i hiK
      have hX := hxs i hiK
      have d1 : w.cell? ⟨gh, i, none⟩ = some (V i) := row_cell hr i _ (vsL_get _ (by omega))
      have d2 : w.cell? ⟨gx, i, none⟩ = some (X i) := row_cell hx i _ (vsL_get _ hiK)
      have hLi := hL i hiK
      obtain ⟨va, vc, hVs, _, _, _, hposv⟩ := row_shape hV
      obtain ⟨xa, xc, hXs, _, _, _, hposxx⟩ := row_shape hX
      rw [hVs] at d1 hV
      rw [hXs] at d2 hX
      have hlo : ∀ k, k < L i → mkS L i k = stM (-1000 - (i : Int)) := fun k hk => mkS_lo hk
      have hhi : ∀ k, ¬ k < L i → mkS L i k = stM (-5000000 - (i : Int)) := fun k hk => mkS_hi hk
      generalize mkS L i = mk at *
      generalize L i = n at *
      have hib : (i : Int) < K := by omega
      have hibx : (i : Int) < KX := by omega
      have c0 := gb_cellN hg c12
      have e1 := gb_cellN hg d1
      have e2 := gb_cellN hg d2
      clear hr hx hvs hxs hposh hposx hL h
      go_wp2
      go_loopw [7] (fun v wq => ∃ k : Nat, k ≤ n + m ∧ v = .int .i64 k ∧ w.grownBy wq none) (fun v _ => n + m - (intOf v).toNat)
      case atStart => exact ⟨0, by omega, rfl, hg⟩
      case round =>
        clear c0 e1 e2 hg
        obtain ⟨k, hk, rfl, hg⟩ := hrel
        have c0 := gb_cellN hg c12
        have e1 := gb_cellN hg d1
        have e2 := gb_cellN hg d2
        by_cases hkn : k < n + m
        · obtain ⟨g2, rfl⟩ := hposxx (by omega)
          have hkb : (k : Int) < n + m := by omega
          have q1 : IntKind.i64.wrap (-1000 - (i : Int)) = -1000 - i := by rw [IntKind.wrap_i64]; omega
          have q2 : IntKind.i64.wrap (-5000000 - (i : Int)) = -5000000 - i := by rw [IntKind.wrap_i64]; omega
          have hxk : (rng (n + m) mk)[k * 16 + 14]? = (mk k)[14]? := rng_get (fun k => by by_cases e : k < n; exact (by rw [hlo k e]; rfl); exact (by rw [hhi k e]; rfl)) hkn (by omega)
          by_cases hkl : k < n
          · obtain ⟨g1, rfl⟩ := hposv (by omega)
            have hvk : (rng n mk)[k * 16 + 14]? = (mk k)[14]? := rng_get (fun k => by by_cases e : k < n; exact (by rw [hlo k e]; rfl); exact (by rw [hhi k e]; rfl)) hkl (by omega)
            rw [hlo k hkl] at hxk hvk
            have u1 := gb_cellN hg (row_cell hV (k * 16 + 14) (.int .i64 (-1000 - (i : Int))) hvk)
            have u2 := gb_cellN hg (row_cell hX (k * 16 + 14) (.int .i64 (-1000 - (i : Int))) hxk)
            have hlb : (k : Int) < n := by omega
            have hd1 : decide ((n : Int) ≤ (k : Int)) = false := by simp; omega
            have hd2 : decide (n ≤ k) = false := by simp; omega
            have hd3 : ¬ n ≤ k := by omega
            have hd4 : decide ((k : Int) < (n : Int)) = true := by simp; omega
            have hd5 : decide (k < n) = true := by simp; omega
            have HG : Hid _ := hg
            clear hV hX hposv hposxx hxk hvk hlo hhi hg c12 d1 d2
            go_wp2
            exact ⟨⟨k + 1, by omega, by go_num, HG.out⟩, by simp [intOf]; omega⟩
          · rw [hhi k hkl] at hxk
            have u2 := gb_cellN hg (row_cell hX (k * 16 + 14) (.int .i64 (-5000000 - (i : Int))) hxk)
            have hlb : ¬ (k : Int) < n := by omega
            have hd1 : decide ((n : Int) ≤ (k : Int)) = true := by simp; omega
            have hd2 : decide (n ≤ k) = true := by simp; omega
            have hd3 : n ≤ k := by omega
            have hd4 : decide ((k : Int) < (n : Int)) = false := by simp; omega
            have hd5 : decide (k < n) = false := by simp; omega
            have hlb2 : (n : Int) ≤ k := by omega
            have HG : Hid _ := hg
            clear hV hX hposv hposxx hxk hlo hhi hg c12 d1 d2
            go_wp2
            exact ⟨⟨k + 1, by omega, by go_num, HG.out⟩, by simp [intOf]; omega⟩
        · obtain rfl : k = n + m := by omega
          have HG : Hid _ := hg
          clear hV hX hposv hposxx hlo hhi hg c12 d1 d2
          go_wp2
          exact ⟨⟨i + 1, by omega, by go_num, HG.out⟩, by simp [intOf]; omega⟩
    · obtain rfl : i = KX := by omega
      clear hr hx hvs hxs hposh hposx hL h
      have HG : Hid _ := hg
      clear hg
      go_wp2
      go_ret
      exact ⟨rfl, HG.out⟩
end Go.Proofs.YtobegepebochkaaGreatDoor
