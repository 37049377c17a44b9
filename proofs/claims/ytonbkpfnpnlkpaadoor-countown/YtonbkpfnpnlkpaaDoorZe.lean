/-
  A Book of lists of handles: lookHandles.
-/
import Derived.Test.YtonbkpfnpnlkpaaDoorZd
namespace Go.Proofs.YtonbkpfnpnlkpaaDoor
open Go.RowKit
set_option linter.unusedVariables false
set_option linter.unusedSimpArgs false

/-- n marks of a list's own, m of what came behind it. -/
def mks (n m i : Nat) : List Value := hvals (List.replicate n (-1000 - (i : Int)) ++ List.replicate m (-5000000 - (i : Int)))
theorem mks_len (n m i : Nat) : (mks n m i).length = n + m := by unfold mks hvals; simp
theorem mks_lo {n m i k : Nat} (h : k < n) : (mks n m i)[k]? = some (.int .i64 (-1000 - (i : Int))) := by
  unfold mks hvals
  rw [List.getElem?_map, List.getElem?_append_left (by simpa using h), List.getElem?_replicate, if_pos h]; rfl
theorem mks_hi {n m i k : Nat} (h : n ≤ k) (h2 : k < n + m) : (mks n m i)[k]? = some (.int .i64 (-5000000 - (i : Int))) := by
  unfold mks hvals
  rw [List.getElem?_map, List.getElem?_append_right (by simpa using h), List.getElem?_replicate, List.length_replicate, if_pos (by omega)]; rfl

set_option maxRecDepth 100000 in
set_option maxHeartbeats 8000000 in
theorem look_76 {w : World} {bb : Nat} {hv wv ov mv xv : Value} {n : Int} {K KX m : Nat} {V X : Nat → Value} {L : Nat → Nat} (h : Box w 72 bb (bkA hv wv ov mv n)) (hr : w.ownsRow 0 40 1 hv K (vsL V K)) (hx : w.ownsRow 0 40 1 xv KX (vsL X KX)) (hKX : KX ≤ K) (hK : K < 5000) (hm : m ≤ 10003) (hL : ∀ i, i < KX → L i ≤ 10003)
    (hvs : ∀ i, i < KX → w.ownsRow 0 3 1 (V i) (L i) (mks (L i) 0 i)) (hxs : ∀ i, i < KX → w.ownsRow 0 3 1 (X i) (L i + m) (mks (L i) m i)) :
    Calls Tryd.prog 76 #[.pointer (some ⟨bb, 0, none⟩), xv] w fun y w' => y = .returned (.bool true) ∧ w' = w := by
  obtain ⟨hao, hcp, hdh, _, _, _, hposh⟩ := row_shape hr
  subst hdh
  obtain ⟨xao, xcp, hdx, _, _, _, hposx⟩ := row_shape hx
  subst hdx
  have c12 : w.cell? ⟨bb, 4, none⟩ = some (.slice hao K hcp) := h.cell 4
  go_enter Tryd.func76, Tryd.ntmps76
  go_wp2
  go_loopw [5] (fun v wr => ∃ i : Nat, i ≤ KX ∧ v = .int .i64 i ∧ wr = w) (fun v _ => KX - (intOf v).toNat)
  case atStart => exact ⟨0, by omega, rfl, rfl⟩
  case round =>
    obtain ⟨i, hi, rfl, hwr⟩ := hrel
    subst hwr
    by_cases hiK : i < KX
    · obtain ⟨gh, rfl⟩ := hposh (by omega)
      obtain ⟨gx, rfl⟩ := hposx (by omega)
      have hV := hvs i hiK
      have hX := hxs i hiK
      have d1 : wr.cell? ⟨gh, i, none⟩ = some (V i) := row_cell hr i _ (by unfold vsL; simp [show i < K by omega])
      have d2 : wr.cell? ⟨gx, i, none⟩ = some (X i) := row_cell hx i _ (by unfold vsL; simp [hiK])
      have hLi := hL i hiK
      obtain ⟨va, vc, hVs, _, _, _, hposv⟩ := row_shape hV
      obtain ⟨xa, xc, hXs, _, _, _, hposxx⟩ := row_shape hX
      rw [hVs] at d1 hV
      rw [hXs] at d2 hX
      generalize L i = n at *
      have hib : (i : Int) < K := by omega
      have hibx : (i : Int) < KX := by omega
      clear hr hx hvs hxs hposh hposx hL h
      go_wp2
      go_loopw [7] (fun v wq => ∃ k : Nat, k ≤ n + m ∧ v = .int .i64 k ∧ wq = wr) (fun v _ => n + m - (intOf v).toNat)
      case atStart => exact ⟨0, by omega, rfl, rfl⟩
      case round =>
        obtain ⟨k, hk, rfl, hwq⟩ := hrel
        subst hwq
        by_cases hkn : k < n + m
        · obtain ⟨g2, rfl⟩ := hposxx (by omega)
          have hkb : (k : Int) < n + m := by omega
          have q1 : IntKind.i64.wrap (-1000 - (i : Int)) = -1000 - i := by rw [IntKind.wrap_i64]; omega
          have q2 : IntKind.i64.wrap (-5000000 - (i : Int)) = -5000000 - i := by rw [IntKind.wrap_i64]; omega
          have q3 : IntKind.i64.wrap (-1000 - (i : Int)) = -1000 - i := by rw [IntKind.wrap_i64]; omega
          have q4 : IntKind.i64.wrap (-5000000 - (i : Int)) = -5000000 - i := by rw [IntKind.wrap_i64]; omega
          by_cases hlo : k < n
          · obtain ⟨g1, rfl⟩ := hposv (by omega)
            have e1 := row_cell hV k _ (mks_lo hlo)
            have e2 := row_cell hX k _ (mks_lo hlo)
            have hlb : (k : Int) < n := by omega
            clear hV hX hposv hposxx
            go_wp2
            exact ⟨⟨k + 1, by omega, by go_num, trivial⟩, by simp [intOf]; omega⟩
          · have e2 := row_cell hX k _ (mks_hi (by omega) hkn)
            have hlb : ¬ (k : Int) < n := by omega
            have hlb2 : (n : Int) ≤ k := by omega
            clear hV hX hposv hposxx
            go_wp2
            exact ⟨⟨k + 1, by omega, by go_num, trivial⟩, by simp [intOf]; omega⟩
        · obtain rfl : k = n + m := by omega
          clear hV hX hposv hposxx
          go_wp2
          exact ⟨⟨i + 1, by omega, by go_num, trivial⟩, by simp [intOf]; omega⟩
    · obtain rfl : i = KX := by omega
      clear hr hx hvs hxs hposh hposx hL h
      go_wp2
      go_ret
      exact ⟨rfl, rfl⟩

end Go.Proofs.YtonbkpfnpnlkpaaDoor
