/-
  A Book of lists of handles: Stands.
-/
import Derived.Test.YtonbkpfnpnlkpaaDoorZc
namespace Go.Proofs.YtonbkpfnpnlkpaaDoor
open Go.RowKit
set_option linter.unusedVariables false
set_option linter.unusedSimpArgs false

set_option maxRecDepth 100000 in
set_option maxHeartbeats 4000000 in
theorem ints_28q {w : World} {a b : Option Addr} {xs : List Int} (h1 : HsH w a xs) (h2 : HsH w b xs) (c d : Nat) (hn : xs.length < 1000000) :
    Calls Tryd.prog 28 #[.slice a xs.length c, .slice b xs.length d] w fun y w' => y = .returned (.bool true) ∧ ∃ q, w' = w.drewN q := by
  go_enter Tryd.func28, Tryd.ntmps28
  go_wp2
  go_loopw [5] (fun v wr => ∃ k q : Nat, k ≤ xs.length ∧ v = .int .i64 k ∧ wr = w.drewN q) (fun v _ => xs.length - (intOf v).toNat)
  case atStart => exact ⟨0, 0, by omega, rfl, rfl⟩
  case round =>
    obtain ⟨k, q, hk, rfl, hg⟩ := hrel
    by_cases hlt : k < xs.length
    · obtain ⟨g1, o1, rfl, hc1⟩ := h1 (by omega)
      obtain ⟨g2, o2, rfl, hc2⟩ := h2 (by omega)
      have e1 : wr.cell? ⟨g1, o1 + k, none⟩ = some (.int .i64 (xs.getD k 0)) := by rw [hg]; exact hc1 k hlt
      have e2 : wr.cell? ⟨g2, o2 + k, none⟩ = some (.int .i64 (xs.getD k 0)) := by rw [hg]; exact hc2 k hlt
      have hib : (k : Int) < xs.length := by omega
      have HG : Hid (wr = w.drewN q) := hg
      generalize xs.getD k 0 = z at *
      clear h1 h2 hc1 hc2 hg
      go_wp2
      go_quiet (fail)
      go_wp2
      exact ⟨⟨k + 1, q + nq, by omega, by go_num, by rw [HG.out, World.drewN_drewN]⟩, by simp [intOf]; omega⟩
    · obtain rfl : k = xs.length := by omega
      clear h1 h2
      have HG : Hid (wr = w.drewN q) := hg
      clear hg
      go_wp2
      go_ret
      exact ⟨rfl, q, HG.out⟩

theorem HsH.of_row0 {w : World} {B : Nat} {dv : Value} {xs : List Int} (h : w.ownsRow B 3 1 dv xs.length (hvals xs)) : ∃ a c, dv = .slice a xs.length c ∧ HsH w a xs := HsH.of_row h

set_option maxRecDepth 100000 in
set_option maxHeartbeats 8000000 in
theorem stands_49 {w : World} {bb : Nat} {FB : Nat → Prop} {hv wv : Value} {n : Int} {K : Nat} {V W : Nat → Value} {D : Nat → List Int} (h : Bk w bb FB hv wv n K V W D) (hK : K < 5000) :
    Calls Tryd.prog 49 #[.pointer (some ⟨bb, 0, none⟩)] w fun y w' => y = .returned (.bool true) ∧ w.grownBy w' none := by
  have c0 : w.cell? ⟨bb, 0, none⟩ = some (.slice none 0 0) := h.box.cell 0
  obtain ⟨hao, hcp, hdh, _, _, _, hposh⟩ := row_shape h.hr
  subst hdh
  obtain ⟨wao, wcp, hdw, _, _, _, hposw⟩ := row_shape h.wr
  subst hdw
  go_enter Tryd.func49, Tryd.ntmps49
  go_wp2
  go_loopw [3] (fun v wr => v = .int .i64 0 ∧ wr = w) (fun _ _ => 0)
  case atStart => exact ⟨rfl, rfl⟩
  case round =>
    obtain ⟨rfl, hwr⟩ := hrel
    subst hwr
    go_wp2
    clear c0
    go_loopw [4] (fun v wy => ∃ i : Nat, i ≤ K ∧ v = .int .i64 i ∧ World.grownBy wr wy none) (fun v _ => K - (intOf v).toNat)
    case atStart => exact ⟨0, by omega, rfl, gb_refl _ _⟩
    case round =>
      obtain ⟨i, hi, rfl, hg⟩ := hrel
      have hz := h.kept0 hg
      have c4 : wr.cell? ⟨bb, 4, none⟩ = some (.slice hao K hcp) := hz.box.cell 4
      have c5 : wr.cell? ⟨bb, 5, none⟩ = some (.slice wao K wcp) := hz.box.cell 5
      have c8 : wr.cell? ⟨bb, 8, none⟩ = some (.slice none 0 0) := hz.box.cell 8
      have c12 : wr.cell? ⟨bb, 12, none⟩ = some (.slice none 0 0) := hz.box.cell 12
      have c16 : wr.cell? ⟨bb, 16, none⟩ = some (.slice none 0 0) := hz.box.cell 16
      by_cases hiK : i < K
      · obtain ⟨gh, rfl⟩ := hposh (by omega)
        obtain ⟨gw, rfl⟩ := hposw (by omega)
        obtain ⟨a1, k1, hV, hH1⟩ := HsH.of_row0 (hz.vs i hiK)
        obtain ⟨a2, k2, hW, hH2⟩ := HsH.of_row0 (hz.ws i hiK)
        have d1 : wr.cell? ⟨gh, i, none⟩ = some (.slice a1 (D i).length k1) := by rw [← hV]; exact row_cell hz.hr i _ (by unfold vsL; simp [hiK])
        have d2 : wr.cell? ⟨gw, i, none⟩ = some (.slice a2 (D i).length k2) := by rw [← hW]; exact row_cell hz.wr i _ (by unfold vsL; simp [hiK])
        have hdl := hz.dl i hiK
        have h35 := fun nq => ints_28q (w := wr.drewN nq) (show HsH (wr.drewN nq) a1 (D i) from hH1) (show HsH (wr.drewN nq) a2 (D i) from hH2) k1 k2 (by omega)
        have hib : (i : Int) < K := by omega
        clear h hz hH1 hH2 hV hW hposh hposw
        generalize (D i).length = dn at *
        go_wp2
        go_quiet ((first | (go_at_call 28; with_reducible exact Calls.quiet_of (h35 _))))
        go_wp2
        exact ⟨⟨i + 1, by omega, by go_num, gb_drewN hg _⟩, by simp [intOf]; omega⟩
      · obtain rfl : i = K := by omega
        clear h hz hposh hposw
        go_wp2
        go_loopw [5] (fun v wy => v = .int .i64 0 ∧ wy = wr) (fun _ _ => 0)
        case atStart => exact ⟨rfl, rfl⟩
        case round =>
          obtain ⟨rfl, hwy⟩ := hrel
          subst hwy
          go_wp2
          go_loopw [6] (fun v wz => v = .int .i64 0 ∧ wz = wr) (fun _ _ => 0)
          case atStart => exact ⟨rfl, rfl⟩
          case round =>
            obtain ⟨rfl, hwz⟩ := hrel
            subst hwz
            go_wp2
            go_loopw [7] (fun v wx => v = .int .i64 0 ∧ wx = wr) (fun _ _ => 0)
            case atStart => exact ⟨rfl, rfl⟩
            case round =>
              obtain ⟨rfl, hwx⟩ := hrel
              subst hwx
              go_wp2
              go_ret
              exact ⟨rfl, hg⟩

end Go.Proofs.YtonbkpfnpnlkpaaDoor
