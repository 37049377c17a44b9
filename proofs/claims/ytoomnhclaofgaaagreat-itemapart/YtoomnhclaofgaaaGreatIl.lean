import Derived.Test.YtoomnhclaofgaaaGreatIk
import Derived.Test.YtoomnhclaofgaaaGreatIj
import Derived.Test.YtoomnhclaofgaaaGreatSx
import Derived.Lib.SlBytesConst
/-
  begun, wakes of the items' laws.
-/
namespace Go.Proofs.YtoomnhclaofgaaaGreat
open Go.RowKit
set_option linter.unusedVariables false

theorem rnew3 (rb : Nat) (w : World) : Calls Tryz.prog 68 #[.pointer (some ⟨rb, 0, none⟩)] w fun y w' => y = .returned (.pointer (some ⟨w.heap.size, 0, none⟩)) ∧ w.grownBy w' none ∧ Box w' 161 w.heap.size #[.pointer (some ⟨rb, 0, none⟩), .slice none 0 0] := by
  go_enter Tryz.func68, Tryz.ntmps68
  go_wp2
  go_ret
  exact ⟨rfl, World.grownBy_alloc _ _ _, Box.new _ _ _⟩

set_option maxRecDepth 100000 in
set_option maxHeartbeats 2000000 in
theorem ibegun (w : World) : Calls Tryz.prog 28 #[.int .i64 0] w fun y w' => ∃ tb sb G B r3 hb, y = .returned (.pointer (some ⟨tb, 0, none⟩)) ∧ w.grownBy w' none ∧ Box w' 77 tb #[.pointer (some ⟨sb, 0, none⟩), .pointer (some ⟨r3, 0, none⟩), .slice none 0 0, .pointer (some ⟨hb, 0, none⟩)] ∧
    (∃ zs, zs.length = 12288 ∧ IsS w' sb G B 3 200 64 256 30 30 wkA zs) ∧ (∀ k, G k → w.heap.size ≤ k ∧ k < tb) := by
  have hcf := fun W => config_0 0 (fun W' => by have := within_any 0 4 (by omega) (by omega) W'; exact this) W
  have hcn := fun W => (new_ok wk_cfg 30 30 (by decide) wk_cls (by decide) W).mono (R' := fun x w' => ∃ sb G B zs, x = .returned (.tuple #[.pointer (some ⟨sb, 0, none⟩), .int .i64 0]) ∧ W.grownBy w' none ∧ zs.length = 12288 ∧ IsS w' sb G B 3 200 64 256 30 30 wkA zs ∧ ∀ k, G k → W.heap.size ≤ k) (by
    rintro x w' ⟨sb, G, B, rfl, hf, hS, hG⟩
    exact ⟨sb, G, B, _, rfl, hf, List.length_replicate, hS, hG⟩)
  have hrn := fun W => rnew_ok wk_cfg (by decide) wk_cls wk_refd W
  unfold cfgV at hcn
  unfold refV at hrn
  change ∀ W, Calls Tryz.prog 4 #[.agg #[.int .i64 4096, .int .i64 3, .int .i64 200, .int .i64 64, .int .i64 256, .int .i64 30, .int .i64 30]] W _ at hcn
  change ∀ W, Calls Tryz.prog 67 #[.agg #[.int .i64 4096, .int .i64 3, .int .i64 200, .int .i64 64, .int .i64 256]] W _ at hrn
  go_enter Tryz.func28, Tryz.ntmps28
  go_wp2_with (first | (go_at_call 5; go_must (refine (hcf _).mono ?_); rintro y w1 ⟨rfl, hf1⟩; (have h71 := C7.box w1 4096 3 200 64 256 30 30)) | (go_at_call 4; go_must (refine (hcn _).mono ?_); rintro y w2 ⟨sb, G, B, zs, rfl, hf2, hzl, hS, hG⟩; (have h72 := h71.kept hf2); (obtain ⟨k0, k1, k2, k3, k4, k5, k6⟩ := h72)) | (go_at_call 67; go_must (refine (hrn _).mono ?_); rintro y w3 ⟨rb, sv, ov, rv, rfl, hf3, -, -, -, -, -, -⟩; (have hS' := hS.kept0 hf3); (have hab := hS'.sc 7); simp [setC] at hab) | (go_at_call 6; go_must (refine (num_45 _ _).mono ?_); rintro y w' ⟨rfl, rfl⟩) | (go_at_call 44; go_must (refine (arena_39 hS').mono ?_); rintro y w' ⟨rfl, rfl⟩) | (go_at_call 68; go_must (refine (rnew3 rb _).mono ?_); rintro y w4 ⟨rfl, hf4, -⟩) | fail)
  go_ret
  have hF1 : w.grownBy (w1.alloc (.cells #[.int .i64 4096, .int .i64 3, .int .i64 200, .int .i64 64, .int .i64 256, .int .i64 30, .int .i64 30] 31)) none := gb_alloc hf1 _
  have s1 := hF1.size
  have s2 := hf2.size
  have s3 := hf3.size
  have s4 := hf4.size
  refine ⟨_, sb, G, B, _, _, rfl, gb_alloc (gb_alloc (gb_trans (gb_trans (gb_trans hF1 hf2) hf3) hf4) _) _, by simpa using Box.new (w4.alloc (.cells #[.slice none 0 0, .slice none 0 0, .int .i64 0] 122)) 77 #[.pointer (some ⟨sb, 0, none⟩), .pointer (some ⟨w3.heap.size, 0, none⟩), .slice none 0 0, .pointer (some ⟨w4.heap.size, 0, none⟩)], ?_, fun k hk => ?_⟩
  · exact ⟨zs, hzl, ((hS'.kept0 hf4).kept0 (World.grownBy_alloc _ _ none)).kept0 (World.grownBy_alloc _ _ none)⟩
  · have h1 := hG k hk
    have h2 := hS.lt k hk
    exact ⟨by omega, by omega⟩

theorem iwk_inv : Inv (one1 wkA 0) := one1_inv wk_invA (by rw [wk_n.1]; decide) (by rw [wk_np.1, wk_np.2.1]; decide) rfl
theorem iwk_isH : IsH (one1 wkA 0) 1 0 0 := by
  have := one1_isH (i := 0) wk_invA (by rw [wk_n.1]; decide)
  rw [own_hdl wk_np.1, wk_np.1] at this
  exact this
theorem iwk_own : (one1 wkA 0).own 0 = 0 := by
  have := one1_own (A := wkA) (i := 0)
  rw [wk_np.1] at this
  exact this
theorem iwk_place : (one1 wkA 0).place 0 0 = 0 := by
  have := one1_place (A := wkA) (i := 0)
  rw [wk_np.1, Nat.zero_mul] at this
  exact this
theorem iwk_sz : (one1 wkA 0).sz 0 = 64 := by rw [one1_sz]; decide
theorem legal_k : LegalP [107] := ⟨by decide, by decide, fun i hi => by
  have : i = 0 := by simp at hi; omega
  subst this; decide⟩
theorem bytes_k : isBytes [107] := by intro z hz; simp at hz; omega
theorem bytes_v : isBytes [118] := by intro z hz; simp at hz; omega
theorem has_one {w : World} {g : Nat} {x : Int} (h : w.cell? ⟨g, 0, none⟩ = some (.int .u8 x)) : Has w (some ⟨g, 0, none⟩) 1 [x] := by
  refine ⟨rfl, fun _ => ⟨g, 0, rfl, fun i hi => ?_⟩⟩
  have : i = 0 := by omega
  subst this
  exact h

theorem cell_new1 (w : World) (x : Int) (z : Nat × Nat) : (w.alloc (.cells #[.int .u8 x] 5 z)).cell? ⟨w.heap.size, 0, none⟩ = some (.int .u8 x) := cell_of_row _ _ 0 _ _ _ (heap_alloc_new w _)

def wkT : It := ⟨0, 0, 0, 0, 0, 0, 258, 0, 1, 0, 0, [107], [118]⟩
theorem iwk_isI {zs : List Int} (h : 60 ≤ zs.length) : IsI (lay zs 0 wkT.L.flatten) 0 wkT := by
  refine ⟨lies_lay (by rw [It.len]; simpa [wkT] using h), ?_, ?_, ?_, ?_, ?_, ?_, ?_, ?_, ?_, ?_, ?_, ?_, ?_, bytes_k, bytes_v⟩ <;> decide

section
variable {w : World} {sb : Nat} {F : Nat → Prop} {B : Bl} {b c d e f g : Int} {zs : List Int}
theorem iwk_lay (h : IsS w sb F B b c d e f g (one1 wkA 0) (headZ zs 0 0)) (hz : 60 ≤ zs.length) (g1 g2 c1 c2 : Nat) (h1 : Has w (some ⟨g1, 0, none⟩) 1 [107]) (h2 : Has w (some ⟨g2, 0, none⟩) 1 [118]) (n1 : g1 ≠ B.ag) (n2 : g2 ≠ B.ag) :
    Calls Tryz.prog 11 #[.pointer (some ⟨sb, 0, none⟩), .int .u64 1, .agg #[.slice (some ⟨g1, 0, none⟩) 1 c1, .slice (some ⟨g2, 0, none⟩) 1 c2, .int .u64 0, .int .i64 0, .int .i64 0, .int .u64 258, .int .i64 1, .int .i64 0]] w fun y w' => y = .returned (.int .i64 0) ∧ IsS w' sb F B b c d e f g (one1 wkA 0) (lay (headZ zs 0 0) 0 wkT.L.flatten) ∧ w.grownBy w' (some B.ag) := by
  have hlz : (headZ zs 0 0).length = zs.length := by rw [headZ_lay _ _ _ (by omega)]; exact length_lay (by rw [hd0_len]; omega)
  have hg := lies_gen (headZ_lies zs 0 0 (by omega))
  have := lay_yes h iwk_inv.fit iwk_isH (some ⟨g1, 0, none⟩) 1 c1 (some ⟨g2, 0, none⟩) 1 c2 0 0 0 258 1 0 [107] [118] h1 h2 bytes_k bytes_v (by intro x hx; simp at hx; omega) (by intro x hx; simp at hx; omega) legal_k (by rw [iwk_own, iwk_sz]; decide) ⟨by decide, by decide, by decide, by decide, by decide⟩ (by decide) 0 (by rw [iwk_place]; exact hg)
  rw [iwk_place, iwk_own] at this
  exact this
theorem iwk_token (h : IsS w sb F B b c d e f g (one1 wkA 0) (lay zs 0 wkT.L.flatten)) (hz : 60 ≤ zs.length) : Calls Tryz.prog 30 #[.pointer (some ⟨sb, 0, none⟩), .int .u64 1] w fun y w' => y = .returned (.tuple #[.int .u64 258, .int .i64 0]) ∧ w.grownBy w' none := by
  have hI := iwk_isI hz
  exact token_yes h iwk_inv.fit iwk_isH 1 (by rw [iwk_place]; exact hI.kl) (by decide) 258 (by rw [iwk_place]; exact hI.token)
theorem iwk_same (h : IsS w sb F B b c d e f g (one1 wkA 0) (lay zs 0 wkT.L.flatten)) (hz : 60 ≤ zs.length) (g1 c1 : Nat) (h1 : Has w (some ⟨g1, 0, none⟩) 1 [107]) : Calls Tryz.prog 31 #[.pointer (some ⟨sb, 0, none⟩), .int .u64 1, .slice (some ⟨g1, 0, none⟩) 1 c1] w fun y w' => y = .returned (.bool true) ∧ w.grownBy w' none := by
  have hI := iwk_isI hz
  exact isame_yes h iwk_inv.fit iwk_isH wkT (by rw [iwk_place]; exact hI) (some ⟨g1, 0, none⟩) 1 c1 [107] h1 rfl (by rw [iwk_own, iwk_sz]; decide)
end

set_option maxRecDepth 100000 in
set_option maxHeartbeats 4000000 in
theorem iwakes (w : World) : Calls Tryz.prog 7 #[] w fun y w' => y = .returned (.bool true) ∧ w.grownBy w' none := by
  have hbg := fun W => ibegun W
  go_enter Tryz.func7, Tryz.ntmps7
  go_wp2_with (first | (go_at_call 28; go_must (refine (hbg _).mono ?_); rintro y w0 ⟨tb, sb, G, B, r3, hb, rfl, hf0, hbx, ⟨zs, hzl, hS⟩, hG⟩; (have c0 := hbx.cell 0); simp at c0) | fail)
  have htb := hbx.lt
  refine (fresh_take hS wk_invA 0 (by rw [wk_n.1]; decide) wk_np.1 rfl (by rw [wk_np.2.1]; decide)).mono ?_
  rintro y w1 ⟨rfl, hK1, F1, B1, hS1, hF1⟩
  have hbx1 := hK1.box hbx (fun h => by have := (hG tb h).2; omega)
  have c1 := hbx1.cell 0
  simp at c1
  have hs1 := hK1.size
  have hw0 := hf0.size
  have hn1 : ¬ F1 tb := fun h => by
    rcases hF1 tb h with h2 | h2
    · have := (hG tb h2).2; omega
    · omega
  have hag := hS1.lt _ hS1.fa.2
  have hagn : tb ≠ B1.ag := fun e => hn1 (by rw [e]; exact hS1.fa.2)
  have g1 : w.heap.size ≤ B1.ag := by
    rcases hF1 _ hS1.fa.2 with h | h
    · have := (hG _ h).1; omega
    · omega
  have hK0 : w.grownBy w1 none := ((Kp.of (F := fun _ => False) hf0).trans hK1 (H := fun _ => False) (fun _ h => h) (fun k hk => .inr (by have := (hG k hk).1; omega))).grown (fun i hi => hi.elim)
  clear hS hG hbx hK1 hf0 hbg hF1 c0
  have hlz : (headZ zs 0 0).length = 12288 := by rw [headZ_lay _ _ _ (by omega), length_lay (by rw [hd0_len]; omega), hzl]
  have hcv1 := Lib.run_convert_bytes_const w1 22 5 #[.int .u8 107] 1 1 Tryz.underlying22 Tryz.underlying5
  have hcv2 := Lib.run_convert_bytes_const (w1.alloc (.cells #[.int .u8 107] 5 (1, 2))) 22 5 #[.int .u8 118] 1 1 Tryz.underlying22 Tryz.underlying5
  simp at hcv1 hcv2
  have hF2 : w1.grownBy ((w1.alloc (.cells #[.int .u8 107] 5 (1, 2))).alloc (.cells #[.int .u8 118] 5 (1, 2))) none := gb_alloc (gb_alloc (gb_refl _ _) _) _
  have hk2 : Has ((w1.alloc (.cells #[.int .u8 107] 5 (1, 2))).alloc (.cells #[.int .u8 118] 5 (1, 2))) (some ⟨w1.heap.size, 0, none⟩) 1 [107] := has_one (gb_cellN (World.grownBy_alloc _ _ none) (cell_new1 w1 107 (1, 2)))
  have hv2 : Has ((w1.alloc (.cells #[.int .u8 107] 5 (1, 2))).alloc (.cells #[.int .u8 118] 5 (1, 2))) (some ⟨w1.heap.size + 1, 0, none⟩) 1 [118] := has_one (by
    have h := cell_new1 (w1.alloc (.cells #[.int .u8 107] 5 (1, 2))) 118 (1, 2)
    rw [show (w1.alloc (.cells #[.int .u8 107] 5 (1, 2))).heap.size = w1.heap.size + 1 by simp] at h
    exact h)
  have hll := iwk_lay (hS1.kept0 hF2) (by omega) w1.heap.size (w1.heap.size + 1) 1 1 hk2 hv2 (by omega) (by omega)
  go_wp2_with fail
  refine hll.mono ?_
  rintro y w3 ⟨rfl, hS3, hf3⟩
  have hF3 : w.grownBy w3 none := gb_far (gb_trans hK0 hF2) hf3 (B := w.heap.size) (fun i hi => by simp at hi; omega) (Nat.le_refl _)
  have hbx3 := (hbx1.kept hF2 (by simp)).kept hf3 (by simpa using hagn)
  have c3 := hbx3.cell 0
  simp at c3
  clear hcv1 hcv2 hll hk2 hv2 hf3 hF2 hS1 hbx1 c1 hK0 hzl
  generalize headZ zs 0 0 = zs3 at *
  have hzl3 : 60 ≤ zs3.length := by omega
  go_wp2_with fail
  refine (iwk_token hS3 hzl3).mono ?_
  rintro y w4 ⟨rfl, hf4⟩
  have hS4 := hS3.kept0 hf4
  have hF4 := gb_trans hF3 hf4
  have hbx4 := hbx3.kept hf4 (by simp)
  clear hS3 hF3 hbx3 c3 hf4
  go_wp2_with fail
  refine (read_nil 1 w4).mono ?_
  rintro y w5 ⟨rfl, hf5⟩
  have hS5 := hS4.kept0 (gb_alloc hf5 (.cells #[.slice none 0 0, .slice none 0 0, .int .u64 0, .int .i64 0, .int .i64 0, .int .u64 0, .int .i64 0, .int .i64 0] 40))
  have hF5 := gb_trans hF4 (gb_alloc hf5 (.cells #[.slice none 0 0, .slice none 0 0, .int .u64 0, .int .i64 0, .int .i64 0, .int .u64 0, .int .i64 0, .int .i64 0] 40))
  have hbx5 := hbx4.kept (gb_alloc hf5 (.cells #[.slice none 0 0, .slice none 0 0, .int .u64 0, .int .i64 0, .int .i64 0, .int .u64 0, .int .i64 0, .int .i64 0] 40)) (by simp)
  clear hS4 hF4 hbx4 hf5
  go_wp2_with fail
  generalize w5.alloc (.cells #[.slice none 0 0, .slice none 0 0, .int .u64 0, .int .i64 0, .int .i64 0, .int .u64 0, .int .i64 0, .int .i64 0] 40) = w6 at *
  refine (setToken_nil 1 1 w6).mono ?_
  rintro y w7 ⟨rfl, hf7⟩
  have hS7 := hS5.kept0 hf7
  have hF7 := gb_trans hF5 hf7
  have hbx7 := hbx5.kept hf7 (by simp)
  have c7 := hbx7.cell 0
  simp at c7
  have hcv7 := Lib.run_convert_bytes_const w7 22 5 #[.int .u8 107] 1 1 Tryz.underlying22 Tryz.underlying5
  simp at hcv7
  have hF8 : w7.grownBy (w7.alloc (.cells #[.int .u8 107] 5 (1, 2))) none := gb_alloc (gb_refl _ _) _
  have hsm := iwk_same (hS7.kept0 hF8) hzl3 w7.heap.size 1 (has_one (cell_new1 w7 107 (1, 2)))
  clear hS5 hF5 hbx5 hf7
  go_wp2_with (first | (go_at_call 6; go_must (refine (num_45 _ _).mono ?_); rintro y w' ⟨rfl, rfl⟩) | (go_at_call 31; with_reducible refine hsm.mono ?_; rintro y w8 ⟨rfl, hf8⟩; (have hcv8 := Lib.run_convert_bytes_const w8 22 5 #[.int .u8 107] 1 1 Tryz.underlying22 Tryz.underlying5); simp at hcv8) | (go_at_call 31; with_reducible refine (same_nil 1 _ _ _ _).mono ?_; rintro y w9 ⟨rfl, hf9⟩) | fail)
  go_ret
  exact ⟨rfl, gb_trans (gb_trans (gb_trans hF7 hF8) hf8) (gb_trans (gb_alloc (gb_refl _ _) _) hf9)⟩

end Go.Proofs.YtoomnhclaofgaaaGreat
