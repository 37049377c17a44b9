/-
  laid, distinct.
-/
import Derived.Test.YtphhofbdekbggaaRx
namespace Go.Proofs.Ytphhofbdekbggaa
open Go.RowKit
set_option linter.unusedVariables false
set_option linter.unusedSimpArgs false

set_option maxRecDepth 100000 in
set_option maxHeartbeats 4000000 in
theorem laid_34 {w : World} {a : Option Addr} {g n c : Nat} {L : List Sv} (h : SvAt w g L) (hn : L.length = n) (ha : 0 < n → a = some ⟨g, 0, none⟩) (hn2 : n ≤ 256) (hok : ∀ i, i < n → svOk (sat L i) = true) :
    Calls Try.prog 34 #[.slice a n c] w fun e w' => (∃ g' cap ps, e = .returned (.agg #[.slice a n c, .slice (some ⟨g', 0, none⟩) ps.length cap]) ∧ w.heap.size ≤ g' ∧ Circle L ps ∧ PtAt w' g' ps ∧ ps.length ≤ 512 * n) ∧ w.grownBy w' none := by
  have hf1 : w.grownBy (w.alloc (.cells #[.slice none 0 0, .slice none 0 0] 32)) none := gb_alloc (gb_refl _ _) _
  have hb : Box (w.alloc (.cells #[.slice none 0 0, .slice none 0 0] 32)) 32 w.heap.size #[.slice none 0 0, .slice none 0 0] := Box.new _ _ _
  have hz : (w.alloc (.cells #[.slice none 0 0, .slice none 0 0] 32)).heap.size = w.heap.size + 1 := by simp
  have h50 := circle_50 (c := c) (h.grown hf1) hn ha hn2 hok
  clear h ha hok
  go_enter Try.func34, Try.ntmps34
  go_wp2_with (first | (go_at_call 50; go_must (refine h50.mono ?_); rintro y w2 ⟨⟨gp, cp, ps, rfl, q1, q2, q3, q4⟩, hg2⟩; (have hb2 := hb.kept hg2 (by simp)); (have d0 := hb2.cell 0); (have d1 := hb2.cell 1); (have z0 := hb2.fz 0); (have z1 := hb2.fz 1); simp only [List.getElem?_toArray, List.getElem?_cons_succ, List.getElem?_cons_zero] at d0 d1) | fail)
  have e1 := ((hb2.set 0 (.slice a n c)).set 1 (.slice (some ⟨gp, 0, none⟩) ps.length cp)).cell 1
  have e0 := ((hb2.set 0 (.slice a n c)).set 1 (.slice (some ⟨gp, 0, none⟩) ps.length cp)).cell 0
  simp at e0 e1
  have hgx : w.grownBy ((w2.setCell ⟨w.heap.size, 0, none⟩ (.slice a n c)).setCell ⟨w.heap.size, 1, none⟩ (.slice (some ⟨gp, 0, none⟩) ps.length cp)) none := gb_far (gb_trans hf1 hg2) (gb_setCell (gb_setCell (gb_refl w2 (some w.heap.size)) _) _) (B := w.heap.size) (fun i e => by cases e; exact Nat.le_refl _) (Nat.le_refl _)
  have hgp : gp ≠ w.heap.size := by omega
  refine bodyPost_ret (v := .agg #[.slice a n c, .slice (some ⟨gp, 0, none⟩) ps.length cp]) (by simp [results, Try.results34, go_sem, e0, e1]) rfl ⟨⟨gp, cp, ps, rfl, by omega, q2, fun i hi => by
    obtain ⟨a0, a1, a2⟩ := q3 i hi
    refine ⟨?_, ?_, ?_⟩ <;> rw [World.cell?_setCell_other _ _ _ _ (fun e => hgp (congrArg Addr.block e).symm), World.cell?_setCell_other _ _ _ _ (fun e => hgp (congrArg Addr.block e).symm)] <;> assumption, q4⟩, hgx⟩
set_option maxRecDepth 100000 in
set_option maxHeartbeats 4000000 in
theorem distinct_30 {w : World} {a : Option Addr} {g n c : Nat} {L : List Sv} (h : SvAt w g L) (hn : L.length = n) (ha : 0 < n → a = some ⟨g, 0, none⟩) (hn2 : n ≤ 256) (hok : ∀ i, i < n → svOk (sat L i) = true) (hne : ∀ i, i + 1 < n → (sat L (i + 1)).1.toList ≠ (sat L i).1.toList) :
    Calls Try.prog 30 #[.slice a n c] w fun e w' => (∃ g' cap ps, e = .returned (.tuple #[.agg #[.slice a n c, .slice (some ⟨g', 0, none⟩) ps.length cap], .int .i64 0]) ∧ w.heap.size ≤ g' ∧ Circle L ps ∧ PtAt w' g' ps ∧ ps.length ≤ 512 * n) ∧ w.grownBy w' none := by
  have hf1 : w.grownBy (w.alloc (.cells #[.slice none 0 0, .slice none 0 0] 32)) none := gb_alloc (gb_refl _ _) _
  have hb : Box (w.alloc (.cells #[.slice none 0 0, .slice none 0 0] 32)) 32 w.heap.size #[.slice none 0 0, .slice none 0 0] := Box.new _ _ _
  go_enter Try.func30, Try.ntmps30
  go_wp2_with fail
  generalize w.alloc (.cells #[.slice none 0 0, .slice none 0 0] 32) = W at *
  have hbl := hb.lt
  go_loopw [4] (fun x wr => ∃ (k : Nat), 1 ≤ k ∧ x = .int .i64 k ∧ (k ≤ n ∨ k = 1) ∧ W.grownBy wr none) (fun x _ => n - (intOf x).toNat)
  case atStart => exact ⟨1, by omega, rfl, .inr rfl, gb_refl _ _⟩
  case round =>
    obtain ⟨k, hk1, rfl, hk, hg⟩ := hrel
    by_cases hlt : k < n
    · obtain rfl := ha (by omega)
      obtain ⟨c0, _⟩ := (h.grown (gb_trans hf1 hg)) k (by omega)
      obtain ⟨d0, _⟩ := (h.grown (gb_trans hf1 hg)) (k - 1) (by omega)
      have hx := hne (k - 1) (by omega)
      rw [show k - 1 + 1 = k by omega] at hx
      have hx2 : ((sat L k).1.toList == (sat L (k - 1)).1.toList) = false := by simpa using hx
      generalize (sat L k).1 = s1 at *
      generalize (sat L (k - 1)).1 = s2 at *
      generalize hkp : k - 1 = kp at *
      have hkp2 : (kp : Int) < (n : Int) := by omega
      have hkp3 : (0 : Int) ≤ (kp : Int) := by omega
      have hkw : IntKind.i64.wrap ((k : Int) - 1) = (kp : Int) := by rw [IntKind.wrap_i64]; omega
      have HG : Hid (W.grownBy wr.drew none) := gb_drew hg
      clear hkp h hx hok hne hg
      go_wp2_with fail
      have hk0 : wr.drew.cell? ⟨g, k * 2, none⟩ = some (.string s1) ∧ wr.drew.cell? ⟨g, kp * 2, none⟩ = some (.string s2) := ⟨c0, d0⟩
      go_region_held3 (fun W => W.cell? ⟨g, k * 2, none⟩ = some (.string s1) ∧ W.cell? ⟨g, kp * 2, none⟩ = some (.string s2)) ((first | with_reducible exact hk0 | go_keep)) (fail)
      go_wp2_with fail
      go_roundw
      case rel => exact ⟨k + 1, by omega, by go_num, .inl (by omega), HG.out⟩
      case measure => simp [intOf]; omega
    · have h34 := laid_34 (c := c) (h.grown (gb_trans hf1 hg)) hn ha hn2 hok
      have hbw := hb.kept hg (by simp)
      have HG : Hid (w.grownBy wr none) := gb_trans hf1 hg
      clear h hok hne hg hb
      go_wp2_with (first | (go_at_call 34; go_must (refine h34.mono ?_); rintro y w2 ⟨⟨gp, cp, ps, rfl, q1, q2, q3, q4⟩, hg2⟩; (have hb2 := hbw.kept hg2 (by simp)); (have d0 := hb2.cell 0); (have d1 := hb2.cell 1); (have z0 := hb2.fz 0); (have z1 := hb2.fz 1); simp only [List.getElem?_toArray, List.getElem?_cons_succ, List.getElem?_cons_zero] at d0 d1) | fail)
      have e1 := ((hb2.set 0 (.slice a n c)).set 1 (.slice (some ⟨gp, 0, none⟩) ps.length cp)).cell 1
      have e0 := ((hb2.set 0 (.slice a n c)).set 1 (.slice (some ⟨gp, 0, none⟩) ps.length cp)).cell 0
      simp at e0 e1
      have hgs := HG.out.size
      have hgx : w.grownBy ((w2.setCell ⟨w.heap.size, 0, none⟩ (.slice a n c)).setCell ⟨w.heap.size, 1, none⟩ (.slice (some ⟨gp, 0, none⟩) ps.length cp)) none := gb_far (gb_trans HG.out hg2) (gb_setCell (gb_setCell (gb_refl w2 (some w.heap.size)) _) _) (B := w.heap.size) (fun i e => by cases e; exact Nat.le_refl _) (Nat.le_refl _)
      have hgp : gp ≠ w.heap.size := by have := hbw.lt; omega
      refine bodyPost_ret (v := .tuple #[.agg #[.slice a n c, .slice (some ⟨gp, 0, none⟩) ps.length cp], .int .i64 0]) (by simp [results, Try.results30, go_sem, e0, e1]) rfl ⟨⟨gp, cp, ps, rfl, by omega, q2, fun i hi => by
        obtain ⟨a0, a1, a2⟩ := q3 i hi
        refine ⟨?_, ?_, ?_⟩ <;> rw [World.cell?_setCell_other _ _ _ _ (fun e => hgp (congrArg Addr.block e).symm), World.cell?_setCell_other _ _ _ _ (fun e => hgp (congrArg Addr.block e).symm)] <;> assumption, q4⟩, hgx⟩
end Go.Proofs.Ytphhofbdekbggaa
