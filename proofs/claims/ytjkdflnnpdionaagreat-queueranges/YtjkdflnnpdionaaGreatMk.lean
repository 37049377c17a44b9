import Derived.Test.YtjkdflnnpdionaaGreatMg
import Derived.Test.YtjkdflnnpdionaaGreatMj
import Derived.Deep.RegionHeld3
/-
  A chunk of a new Set.
-/
namespace Go.Proofs.YtjkdflnnpdionaaGreat
open Go.RowKit
set_option linter.unusedVariables false

/-- A chunk as it is taken. -/
def hd0 (g : Int) : List Int := List.replicate 12 0 ++ (be 4 g ++ List.replicate 40 0)
theorem hd0_len (g : Int) : (hd0 g).length = 56 := by simp [hd0, be_len]
theorem headZ_lay (zs : List Int) (pl g : Nat) (h : pl + 56 ≤ zs.length) : headZ zs pl g = lay zs pl (hd0 g) := by
  unfold headZ
  have l1 : (lay zs pl (List.replicate 56 0)).length = zs.length := length_lay (by simp; omega)
  rw [putL_lay _ _ _ _ (by rw [l1]; omega), lay_part _ _ _ (by simp; omega) _ _ (by simp [be_len])]
  congr 1
theorem headZ_lies (zs : List Int) (pl g : Nat) (h : pl + 56 ≤ zs.length) : Lies (headZ zs pl g) pl (hd0 g) := by
  rw [headZ_lay zs pl g h]
  exact lies_lay (by rw [hd0_len]; exact h)
theorem lies_gen {zs : List Int} {pl : Nat} {g : Int} (h : Lies zs pl (hd0 g)) : cut zs (pl + 12) 4 = be 4 g := by
  rw [h.cutE 12 4 (by rw [hd0_len]; omega)]
  exact cut_app _ _ _ _ _ (by simp) (by simp [be_len])

/-- A Set with one chunk taken of class i. -/
def one1 (A : Ab) (i : Nat) : Ab := (A.owned i).taken i A.np 0

section
variable {A : Ab} {i : Nat}
theorem one1_inv (h : Inv A) (hi : i < A.n) (hm : A.np < A.m) (hr : A.row i = []) : Inv (one1 A i) := by
  have hA := h.fit
  have hea := (hA.toSzs.each hi).1
  refine (h.own hi hm).take (by rw [owned_n]; exact hi) (by rw [owned_np]; omega) (by rw [owned_own, if_pos rfl]) (by rw [owned_each]; omega) (by rw [owned_tkn, if_pos rfl]) ?_
  rw [owned_row, if_pos rfl, hr, List.nil_append, nums_last A i (by omega), owned_num2]
theorem one1_own : (one1 A i).own A.np = i := by
  show (A.owned i).own A.np = i
  rw [owned_own, if_pos rfl]
theorem one1_sz (j : Nat) : (one1 A i).sz j = A.sz j := by
  show (A.owned i).sz j = _
  rw [owned_sz]
theorem one1_n : (one1 A i).n = A.n := by
  show (A.owned i).n = _
  rw [owned_n]
theorem one1_np : (one1 A i).np = A.np + 1 := by
  show (A.owned i).np = _
  rw [owned_np]
theorem one1_ps : (one1 A i).ps = A.ps := by
  show (A.owned i).ps = _
  rw [owned_ps]
theorem one1_m : (one1 A i).m = A.m := by
  show (A.owned i).m = _
  rw [owned_m]
theorem one1_place : (one1 A i).place A.np 0 = A.np * A.ps := by
  unfold Ab.place
  rw [one1_ps, Nat.zero_mul, Nat.add_zero]
theorem one1_isH (h : Inv A) (hi : i < A.n) : IsH (one1 A i) ((A.owned i).hdl A.np 0) A.np 0 := by
  have hea := (h.fit.toSzs.each hi).1
  refine ⟨by rw [one1_np]; omega, ?_, ?_, rfl⟩
  · rw [one1_own]
    show 0 < (A.owned i).each i
    rw [owned_each]; omega
  · show upd2 _ A.np 0 true A.np 0 = true
    simp [upd2]
theorem own_hdl (h0 : A.np = 0) : (A.owned i).hdl A.np 0 = 1 := by
  unfold Ab.hdl
  rw [owned_gen, if_pos rfl, owned_num2, h0]
  simp
end

section
variable {w : World} {sb : Nat} {G : Nat → Prop} {B : Bl} {b c d e f g : Int} {zs : List Int}
theorem fresh_take {A : Ab} (h : IsS w sb G B b c d e f g A zs) (hI : Inv A) (i : Nat) (hi : i < A.n) (h0 : A.np = 0) (hr : A.row i = []) (hm : 1 ≤ A.m) :
    Calls Tryz.prog 69 #[.pointer (some ⟨sb, 0, none⟩), .int .i64 i] w fun y w' => y = .returned (.tuple #[.int .u64 1, .int .i64 0]) ∧ Kp G w w' ∧ ∃ F' B', IsS w' sb F' B' b c d e f g (one1 A i) (headZ zs 0 0) ∧ (∀ k, F' k → G k ∨ w.heap.size ≤ k) := by
  have := take_page h hI hi hr (by omega)
  rw [own_hdl h0] at this
  refine this.mono ?_
  rintro y w' ⟨rfl, hK, F', B', hS, hF⟩
  rw [owned_gen, if_pos rfl] at hS
  have hp : (A.owned i).place A.np 0 = 0 := by
    unfold Ab.place
    rw [h0]; simp
  rw [hp] at hS
  exact ⟨rfl, hK, F', B', hS, hF⟩
end

end Go.Proofs.YtjkdflnnpdionaaGreat
/-
  Items: Lengths, SetLink to none.
-/
namespace Go.Proofs.YtjkdflnnpdionaaGreat
open Go.RowKit
set_option linter.unusedVariables false

section
variable {w : World} {sb : Nat} {F : Nat → Prop} {B : Bl} {b c d e f g : Int} {A : Ab} {zs : List Int}

set_option maxRecDepth 100000 in
set_option maxHeartbeats 1000000 in
theorem lengths_yes (h : IsS w sb F B b c d e f g A zs) (hA : Fit2 A) {H p k : Nat} (hH : IsH A H p k) (kl : Nat) (hkl : Hid (getL zs (A.place p k + 44) 1 0 0 = kl)) (hk2 : 0 < kl ∧ kl < 256) (vl : Nat) (hvl : Hid (getL zs (A.place p k + 48) 4 0 0 = vl)) (hv2 : vl < 4294967296) :
    Calls Tryz.prog 151 #[.pointer (some ⟨sb, 0, none⟩), .int .u64 H] w fun y w' => y = .returned (.tuple #[.int .i64 kl, .int .i64 vl, .int .i64 0]) ∧ w.grownBy w' none := by
  have hP := pl_of h hA.toFit1 hH.hp hH.hk
  have h64 := hA.lo _ (hA.on p hH.hp)
  have hop := open_yes h hA hH
  have hhi := fun w1 (hf : w.grownBy w1 none) => hasItem_it h hA hH.hp hH.hk kl hkl hk2.2 hf
  rw [show decide (0 < kl) = true by simpa using hk2.1] at hhi
  have hkk := fun w1 (hf : w.grownBy w1 none) => keyLength_any ((h.kept0 hf).ar) (A.place p k) (A.own p) (A.sz (A.own p)) hP.hb.1 (hP.th 44 1 (by omega)) kl hkl hk2.2
  have hvv := fun w1 (hf : w.grownBy w1 none) => valueLength_any ((h.kept0 hf).ar) (A.place p k) (A.own p) (A.sz (A.own p)) hP.hb.1 (hP.th 48 4 (by omega)) vl hvl hv2
  clear h hH hkl hvl hP
  unfold chV at *
  generalize A.place p k = pl at *
  generalize A.sz (A.own p) = s at *
  generalize A.own p = op at *
  generalize B.ab = ab at *
  go_enter Tryz.func151, Tryz.ntmps151
  go_wp2_with (first | (go_at_call 141; go_must (refine hop.mono ?_); rintro y w1 ⟨rfl, hf1⟩; (have hf2 : w.grownBy (w1.alloc (.cells #[.pointer (some ⟨ab, 0, none⟩), .int .i64 pl, .int .i64 op, .int .i64 s] 217)) none := gb_alloc hf1 _); (have hc2 := Box.new w1 217 #[.pointer (some ⟨ab, 0, none⟩), .int .i64 pl, .int .i64 op, .int .i64 s])) | (go_at_call 182; go_must (refine (hhi _ hf2).mono ?_); rintro y w3 ⟨rfl, hf3⟩; (have hc3 := hc2.kept hf3 (by simp)); (have z0 := hc3.cell 0); (have z1 := hc3.cell 1); (have z2 := hc3.cell 2); (have z3 := hc3.cell 3); simp at z0 z1 z2 z3; (have hf23 := gb_drew (gb_trans hf2 hf3))) | fail)
  have hCC : ∀ W, w3.grownBy W none → W.cell? ⟨w1.heap.size, 0, none⟩ = some (.pointer (some ⟨ab, 0, none⟩)) ∧ W.cell? ⟨w1.heap.size, 1, none⟩ = some (.int .i64 pl) ∧ W.cell? ⟨w1.heap.size, 2, none⟩ = some (.int .i64 op) ∧ W.cell? ⟨w1.heap.size, 3, none⟩ = some (.int .i64 s) := fun W hf => ⟨gb_cellN hf z0, gb_cellN hf z1, gb_cellN hf z2, gb_cellN hf z3⟩
  have h3d : w3.grownBy w3.drew none := gb_drew (gb_refl _ _)
  go_region_held3 (fun w' => w'.cell? ⟨w1.heap.size, 0, none⟩ = some (.pointer (some ⟨ab, 0, none⟩)) ∧ w'.cell? ⟨w1.heap.size, 1, none⟩ = some (.int .i64 pl) ∧ w'.cell? ⟨w1.heap.size, 2, none⟩ = some (.int .i64 op) ∧ w'.cell? ⟨w1.heap.size, 3, none⟩ = some (.int .i64 s)) ((first | with_reducible exact hCC _ h35 | with_reducible exact hCC _ h34 | go_keep)) ((first | (go_at_call 195; with_reducible refine (hkk _ hf23).mono ?_; rintro y w4 ⟨rfl, hf4⟩; (have h34 := gb_trans h3d hf4); (have hf24 := gb_trans hf23 hf4)) | (go_at_call 196; with_reducible refine (hvv _ hf24).mono ?_; rintro y w5 ⟨rfl, hf5⟩; (have h35 := gb_trans h34 hf5))))
  go_wp2
  go_ret3
  exact ⟨rfl, gb_trans hf24 hf5⟩

theorem isLink0 (w : World) : Calls Tryz.prog 179 #[.int .i64 0] w fun y w' => y = .returned (.bool true) ∧ w = w' := by
  go_enter Tryz.func179, Tryz.ntmps179
  go_wp2
  go_ret
  exact ⟨rfl, rfl⟩
theorem linkAt0 (w : World) : Calls Tryz.prog 181 #[.int .i64 0] w fun y w' => y = .returned (.int .i64 0) ∧ w = w' := by
  go_enter Tryz.func181, Tryz.ntmps181
  go_wp2
  go_ret
  exact ⟨rfl, rfl⟩

set_option maxRecDepth 100000 in
set_option maxHeartbeats 1000000 in
theorem setLink0 (h : IsS w sb F B b c d e f g A zs) (hA : Fit2 A) {H p k : Nat} (hH : IsH A H p k) (kl : Nat) (hkl : Hid (getL zs (A.place p k + 44) 1 0 0 = kl)) (hk2 : 0 < kl ∧ kl < 256) :
    Calls Tryz.prog 154 #[.pointer (some ⟨sb, 0, none⟩), .int .u64 H, .int .i64 0, .int .u64 0] w fun y w' => y = .returned (.int .i64 0) ∧ Kp F w w' ∧ IsS w' sb F B b c d e f g A (lay zs (A.place p k) (be 4 0)) := by
  have hP := pl_of h hA.toFit1 hH.hp hH.hk
  have h64 := hA.lo _ (hA.on p hH.hp)
  have hop := openItem_yes h hA hH kl hkl hk2
  have hpt := fun w1 (hf : w.grownBy w1 none) => (iput_u32 ((h.kept0 hf).ar) (A.place p k) (A.own p) (A.sz (A.own p)) 0 0 (by omega) (by have := hP.hb; omega) (hP.th 0 4 (by omega))).mono (R' := fun y w' => y = .returned (.tuple #[]) ∧ w1.grownBy w' (some B.ag) ∧ Hid (Kp F w w' ∧ IsS w' sb F B b c d e f g A (lay zs (A.place p k) (be 4 0)))) (by
    rintro y w' ⟨rfl, hg, hA'⟩
    obtain ⟨h1, h2⟩ := (h.kept0 hf).bytes hg hA'
    exact ⟨rfl, hg, ((Kp.of (F := F) hf).trans h2 (fun _ h => h) (fun i hi => .inl hi)), h1⟩)
  have hag : B.ag < w.heap.size := h.lt _ h.fa.2
  have hil := fun W => isLink0 W
  have hw0 : IntKind.u32.wrap 0 = 0 := by decide
  have hla := fun W => linkAt0 W
  clear h hH hkl hP
  unfold chV at *
  generalize lay zs (A.place p k) (be 4 0) = us at *
  generalize A.place p k = pl at *
  generalize A.sz (A.own p) = s at *
  generalize A.own p = op at *
  have hab : ∃ ab, ab = B.ab := ⟨_, rfl⟩
  obtain ⟨ab, hab⟩ := hab
  rw [← hab] at hop hpt
  clear hab
  obtain ⟨ag, hag2⟩ : ∃ ag, ag = B.ag := ⟨_, rfl⟩
  rw [← hag2] at hag hpt
  clear hag2
  simp only [show ((0 : Nat) : Int) = 0 from rfl] at hpt
  go_enter Tryz.func154, Tryz.ntmps154
  go_wp2_with (first | (go_at_call 198; go_must (refine hop.mono ?_); rintro y w1 ⟨rfl, hf1⟩; (have hf2 : w.grownBy (w1.alloc (.cells #[.pointer (some ⟨ab, 0, none⟩), .int .i64 pl, .int .i64 op, .int .i64 s] 217)) none := gb_alloc hf1 _); (have hc3 := Box.new w1 217 #[.pointer (some ⟨ab, 0, none⟩), .int .i64 pl, .int .i64 op, .int .i64 s]); skip) | (go_at_call 179; go_must (refine (hil _).mono ?_); rintro y w' ⟨rfl, rfl⟩) | fail)
  have hCC : ∀ W, (w1.alloc (.cells #[.pointer (some ⟨ab, 0, none⟩), .int .i64 pl, .int .i64 op, .int .i64 s] 217)).grownBy W none → W.cell? ⟨w1.heap.size, 0, none⟩ = some (.pointer (some ⟨ab, 0, none⟩)) ∧ W.cell? ⟨w1.heap.size, 1, none⟩ = some (.int .i64 pl) ∧ W.cell? ⟨w1.heap.size, 2, none⟩ = some (.int .i64 op) ∧ W.cell? ⟨w1.heap.size, 3, none⟩ = some (.int .i64 s) := fun W hf => ⟨gb_cellN hf (hc3.cell 0), gb_cellN hf (hc3.cell 1), gb_cellN hf (hc3.cell 2), gb_cellN hf (hc3.cell 3)⟩
  generalize w1.alloc (.cells #[.pointer (some ⟨ab, 0, none⟩), .int .i64 pl, .int .i64 op, .int .i64 s] 217) = W3 at *
  have h3d : W3.grownBy W3.drew none := gb_drew (gb_refl _ _)
  have hf3 := gb_drew hf2
  have hs1 := hf1.size
  have hCD : ∀ W, W3.drew.grownBy W (some ag) → W.cell? ⟨w1.heap.size, 0, none⟩ = some (.pointer (some ⟨ab, 0, none⟩)) ∧ W.cell? ⟨w1.heap.size, 1, none⟩ = some (.int .i64 pl) ∧ W.cell? ⟨w1.heap.size, 2, none⟩ = some (.int .i64 op) ∧ W.cell? ⟨w1.heap.size, 3, none⟩ = some (.int .i64 s) := fun W hf => by
    obtain ⟨d0, d1, d2, d3⟩ := hCC _ h3d
    have hne : some w1.heap.size ≠ some ag := by simp; omega
    exact ⟨gb_cell hf d0 hne, gb_cell hf d1 hne, gb_cell hf d2 hne, gb_cell hf d3 hne⟩
  go_region_held3 (fun w' => w'.cell? ⟨w1.heap.size, 0, none⟩ = some (.pointer (some ⟨ab, 0, none⟩)) ∧ w'.cell? ⟨w1.heap.size, 1, none⟩ = some (.int .i64 pl) ∧ w'.cell? ⟨w1.heap.size, 2, none⟩ = some (.int .i64 op) ∧ w'.cell? ⟨w1.heap.size, 3, none⟩ = some (.int .i64 s)) ((first | with_reducible exact hCD _ hg4 | with_reducible exact hCC _ h3d | go_keep)) ((first | (go_at_call 181; with_reducible refine (hla _).mono ?_; rintro y w' ⟨rfl, rfl⟩) | (go_at_call 147; with_reducible refine (hpt _ hf3).mono ?_; rintro y w4 ⟨rfl, hg4, hE⟩)))
  go_wp2
  go_ret
  exact ⟨rfl, hE.out⟩
end
end Go.Proofs.YtjkdflnnpdionaaGreat
