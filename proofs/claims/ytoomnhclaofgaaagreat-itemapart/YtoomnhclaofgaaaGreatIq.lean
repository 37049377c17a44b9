import Derived.Test.YtoomnhclaofgaaaGreatIp
import Derived.Deep.RegionHeld3
/-
  Read.
-/
namespace Go.Proofs.YtoomnhclaofgaaaGreat
open Go.RowKit
set_option linter.unusedVariables false

/-- Where Read stands. -/
structure RdS (w : World) (cb ab pl op s : Nat) (W : World) : Prop where
  gr : w.grownBy W none
  bc : Box W 84 cb #[.pointer (some ⟨ab, 0, none⟩), .int .i64 pl, .int .i64 op, .int .i64 s]
  br : Box W 40 w.heap.size #[.slice none 0 0, .slice none 0 0, .int .u64 0, .int .i64 0, .int .i64 0, .int .u64 0, .int .i64 0, .int .i64 0]
theorem RdS.step {w : World} {cb ab pl op s : Nat} {W W' : World} (h : RdS w cb ab pl op s W) (hf : W.grownBy W' none) : RdS w cb ab pl op s W' := ⟨gb_trans h.gr hf, h.bc.kept hf (by simp), h.br.kept hf (by simp)⟩
theorem RdS.drew {w : World} {cb ab pl op s : Nat} {W : World} (h : RdS w cb ab pl op s W) : RdS w cb ab pl op s W.drew := h.step (gb_drew (gb_refl _ _))
theorem RdS.cc {w : World} {cb ab pl op s : Nat} {W : World} (h : RdS w cb ab pl op s W) : W.cell? ⟨cb, 0, none⟩ = some (.pointer (some ⟨ab, 0, none⟩)) ∧ W.cell? ⟨cb, 1, none⟩ = some (.int .i64 pl) ∧ W.cell? ⟨cb, 2, none⟩ = some (.int .i64 op) ∧ W.cell? ⟨cb, 3, none⟩ = some (.int .i64 s) := ⟨h.bc.cell 0, h.bc.cell 1, h.bc.cell 2, h.bc.cell 3⟩

section
variable {w : World} {sb : Nat} {F : Nat → Prop} {B : Bl} {b c d e f g : Int} {A : Ab} {zs : List Int}

set_option maxRecDepth 100000 in
set_option maxHeartbeats 8000000 in
theorem read_it (h : IsS w sb F B b c d e f g A zs) (hA : Fit2 A) {H p k : Nat} (hH : IsH A H p k) (t : It) (hI : IsI zs (A.place p k) t) (hfit : 58 + t.key.length + t.val.length ≤ A.sz (A.own p)) :
    Calls Tryz.prog 19 #[.pointer (some ⟨sb, 0, none⟩), .int .u64 H] w fun y w' => ∃ g1 g2, y = .returned (.tuple #[itV (some ⟨g1, 0, none⟩) t.key.length t.key.length (some ⟨g2, 0, none⟩) t.val.length t.val.length t.fl t.ex t.to t.tk t.st t.ms, .int .i64 0]) ∧ w.grownBy w' none ∧ w.heap.size ≤ g1 ∧ w.heap.size ≤ g2 ∧ w'.heap[g1]? = some (.cells (vals t.key) 5 (0, 0)) ∧ w'.heap[g2]? = some (.cells (vals t.val) 5 (0, 0)) := by
  have hP := pl_of h hA.toFit1 hH.hp hH.hk
  have h64 := hA.lo _ (hA.on p hH.hp)
  have hPb := hP.hb
  have hk1 := hI.k1
  have hvn := hI.vn
  have hal := World.grownBy_alloc w (.cells #[.slice none 0 0, .slice none 0 0, .int .u64 0, .int .i64 0, .int .i64 0, .int .u64 0, .int .i64 0, .int .i64 0] 40) none
  have hbx := Box.new w 40 #[.slice none 0 0, .slice none 0 0, .int .u64 0, .int .i64 0, .int .i64 0, .int .u64 0, .int .i64 0, .int .i64 0]
  have hop := open_yes (h.kept0 hal) hA hH
  have hhi := fun w1 (hf : w.grownBy w1 none) => hasItem_it h hA hH.hp hH.hk t.key.length hI.kl (by omega) hf
  rw [show decide (0 < t.key.length) = true by simp; omega] at hhi
  have hkl := fun w1 (hf : w.grownBy w1 none) => keyLength_any ((h.kept0 hf).ar) (A.place p k) (A.own p) (A.sz (A.own p)) hP.hb.1 (hP.th 44 1 (by omega)) t.key.length hI.kl (by omega)
  have hvl := fun w1 (hf : w.grownBy w1 none) => valueLength_any ((h.kept0 hf).ar) (A.place p k) (A.own p) (A.sz (A.own p)) hP.hb.1 (hP.th 48 4 (by omega)) t.val.length hI.vl (by omega)
  have hrk := fun w1 (hf : w.grownBy w1 none) => read_103 ((h.kept0 hf).ar) (A.place p k) (A.own p) (A.sz (A.own p)) 56 t.key.length (by omega) (by omega) (hP.th 56 _ (by omega))
  have hrv := fun w1 (hf : w.grownBy w1 none) => read_103 ((h.kept0 hf).ar) (A.place p k) (A.own p) (A.sz (A.own p)) (56 + t.key.length) t.val.length (by omega) (by omega) (hP.th (56 + t.key.length) _ (by omega))
  rw [hI.key] at hrk
  rw [hI.value] at hrv
  have hg40 := fun w1 (hf : w.grownBy w1 none) => iget_u32 ((h.kept0 hf).ar) (A.place p k) (A.own p) (A.sz (A.own p)) 40 (by omega) (hP.th 40 4 (by omega))
  have hg16 := fun w1 (hf : w.grownBy w1 none) => iget_u64 ((h.kept0 hf).ar) (A.place p k) (A.own p) (A.sz (A.own p)) 16 (by omega) (hP.th 16 8 (by omega))
  have hg24 := fun w1 (hf : w.grownBy w1 none) => iget_u64 ((h.kept0 hf).ar) (A.place p k) (A.own p) (A.sz (A.own p)) 24 (by omega) (hP.th 24 8 (by omega))
  have hg32 := fun w1 (hf : w.grownBy w1 none) => iget_u64 ((h.kept0 hf).ar) (A.place p k) (A.own p) (A.sz (A.own p)) 32 (by omega) (hP.th 32 8 (by omega))
  have hg45 := fun w1 (hf : w.grownBy w1 none) => iget_u8 ((h.kept0 hf).ar) (A.place p k) (A.own p) (A.sz (A.own p)) 45 (by omega) (hP.th 45 1 (by omega))
  have hg46 := fun w1 (hf : w.grownBy w1 none) => iget_u8 ((h.kept0 hf).ar) (A.place p k) (A.own p) (A.sz (A.own p)) 46 (by omega) (hP.th 46 1 (by omega))
  simp only [hI.flags, show ((40 : Nat) : Int) = 40 from rfl] at hg40
  simp only [hI.expiry, show ((16 : Nat) : Int) = 16 from rfl] at hg16
  simp only [hI.touched, show ((24 : Nat) : Int) = 24 from rfl] at hg24
  simp only [hI.token, show ((32 : Nat) : Int) = 32 from rfl] at hg32
  simp only [hI.state, show ((45 : Nat) : Int) = 45 from rfl] at hg45
  simp only [hI.marks, show ((46 : Nat) : Int) = 46 from rfl] at hg46
  simp only [show ((56 : Nat) : Int) = 56 from rfl] at hrk
  rw [show ((56 + t.key.length : Nat) : Int) = 56 + (t.key.length : Int) by omega] at hrv
  have b1 := hI.fl
  have b2 := hI.ex
  have b3 := hI.to
  have b4 := hI.tk
  have b5 := hI.st
  have b6 := hI.ms
  clear h hH hP hI hfit
  obtain ⟨l0, l1, l2, gn, ex, to, tk, fl, st, ms, cl, key, val⟩ := t
  simp only at *
  generalize vals key = vk at *
  generalize vals val = vv at *
  generalize key.length = kl at *
  generalize val.length = vl at *
  unfold chV at *
  unfold itV
  have hsb : A.sz (A.own p) ≤ 1048576 := hPb.2
  have hpb : A.place p k ≤ 1073741824 := hPb.1
  generalize A.place p k = pl at *
  generalize A.sz (A.own p) = s at *
  generalize A.own p = op at *
  generalize B.ab = ab at *
  have hwf : IntKind.u64.wrap fl = fl := by rw [IntKind.wrap_u64]; omega
  have hwe : IntKind.i64.wrap ex = ex := by rw [IntKind.wrap_i64]; omega
  have hwt : IntKind.i64.wrap to = to := by rw [IntKind.wrap_i64]; omega
  have hws : IntKind.i64.wrap st = st := by rw [IntKind.wrap_i64]; omega
  have hwm : IntKind.i64.wrap ms = ms := by rw [IntKind.wrap_i64]; omega
  have hw5 : IntKind.i64.wrap (56 + (kl : Int)) = 56 + (kl : Int) := by rw [IntKind.wrap_i64]; omega
  go_enter Tryz.func19, Tryz.ntmps19
  go_wp2_with (first | (go_at_call 33; go_must (refine hop.mono ?_); rintro y w1 ⟨rfl, hf1⟩; (have hbx1 := hbx.kept hf1 (by simp)); (have hf2 : w.grownBy (w1.alloc (.cells #[.pointer (some ⟨ab, 0, none⟩), .int .i64 pl, .int .i64 op, .int .i64 s] 84)) none := gb_alloc (gb_trans hal hf1) _); (have hR2 : RdS w w1.heap.size ab pl op s (w1.alloc (.cells #[.pointer (some ⟨ab, 0, none⟩), .int .i64 pl, .int .i64 op, .int .i64 s] 84)) := ⟨hf2, Box.new _ _ _, hbx1.kept (World.grownBy_alloc _ _ none) (by simp)⟩)) | (go_at_call 54; go_must (refine (hhi _ hf2).mono ?_); rintro y w3 ⟨rfl, hf3⟩; (have hR3 := hR2.step hf3); (obtain ⟨z0, z1, z2, z3⟩ := hR3.cc)) | (go_at_call 55; go_must (refine (hkl _ hR3.gr).mono ?_); rintro y w4 ⟨rfl, hf4⟩; (have hR4 := hR3.step hf4); (clear z0 z1 z2 z3); (obtain ⟨z0, z1, z2, z3⟩ := hR4.cc)) | fail)
  have hb4 := hR4.br
  have hcb : w.heap.size < w1.heap.size := hbx1.lt
  have hne1 : ¬ w1.heap.size = w.heap.size := by omega
  have hne2 : ¬ w.heap.size = w1.heap.size := by omega
  have hR4d := hR4.drew
  clear hop hbx hhi hkl hR2 hf2 hR3 hf3 hf4
  generalize w1.heap.size = cb at *
  go_region_held3 (fun w' => w'.cell? ⟨cb, 0, none⟩ = some (.pointer (some ⟨ab, 0, none⟩)) ∧ w'.cell? ⟨cb, 1, none⟩ = some (.int .i64 pl) ∧ w'.cell? ⟨cb, 2, none⟩ = some (.int .i64 op) ∧ w'.cell? ⟨cb, 3, none⟩ = some (.int .i64 s)) ((first | with_reducible exact hRi.cc | with_reducible exact hRh.cc | with_reducible exact hRg.cc | with_reducible exact hRf.cc | with_reducible exact hRe.cc | with_reducible exact hRd.cc | with_reducible exact hRc.cc | with_reducible exact hRb.cc | with_reducible exact hRa.cc | go_keep)) ((first | (go_at_call 56; with_reducible refine (hrk _ hR4d.gr).mono ?_; rintro y wa ⟨g1, rfl, hga, hfa, hha⟩; (have hRa := hR4d.step hfa)) | (go_at_call 57; with_reducible refine (hvl _ hRa.gr).mono ?_; rintro y wb ⟨rfl, hfb⟩; (have hRb := hRa.step hfb)) | (go_at_call 56; with_reducible refine (hrv _ hRb.gr).mono ?_; rintro y wc ⟨g2, rfl, hgc, hfc, hhc⟩; (have hRc := hRb.step hfc)) | (go_at_call 58; with_reducible refine (hg40 _ hRc.gr).mono ?_; rintro y wd ⟨rfl, hfd⟩; (have hRd := hRc.step hfd)) | (go_at_call 59; with_reducible refine (hg16 _ hRd.gr).mono ?_; rintro y we ⟨rfl, hfe⟩; (have hRe := hRd.step hfe)) | (go_at_call 59; with_reducible refine (hg24 _ hRe.gr).mono ?_; rintro y wf ⟨rfl, hff⟩; (have hRf := hRe.step hff)) | (go_at_call 59; with_reducible refine (hg32 _ hRf.gr).mono ?_; rintro y wg ⟨rfl, hfg⟩; (have hRg := hRf.step hfg)) | (go_at_call 60; with_reducible refine (hg45 _ hRg.gr).mono ?_; rintro y wh ⟨rfl, hfh⟩; (have hRh := hRg.step hfh)) | (go_at_call 60; with_reducible refine (hg46 _ hRh.gr).mono ?_; rintro y wi ⟨rfl, hfi⟩; (have hRi := hRh.step hfi); (have hbi := hRi.br); (have v0 := hbi.cell 0); (have v1 := hbi.cell 1); (have v2 := hbi.cell 2); (have v3 := hbi.cell 3); (have v4 := hbi.cell 4); (have v5 := hbi.cell 5); (have v6 := hbi.cell 6); (have v7 := hbi.cell 7); simp at v0 v1 v2 v3 v4 v5 v6 v7; (have t0 := hbi.fz 0); (have t1 := hbi.fz 1); (have t2 := hbi.fz 2); (have t3 := hbi.fz 3); (have t4 := hbi.fz 4); (have t5 := hbi.fz 5); (have t6 := hbi.fz 6); (have t7 := hbi.fz 7))))
  have hFs : wi.grownBy ((((((((wi.setCell ⟨w.heap.size, 0, none⟩ (.slice (some ⟨g1, 0, none⟩) kl kl)).setCell ⟨w.heap.size, 1, none⟩ (.slice (some ⟨g2, 0, none⟩) vl vl)).setCell ⟨w.heap.size, 2, none⟩ (.int .u64 fl)).setCell ⟨w.heap.size, 3, none⟩ (.int .i64 ex)).setCell ⟨w.heap.size, 4, none⟩ (.int .i64 to)).setCell ⟨w.heap.size, 5, none⟩ (.int .u64 tk)).setCell ⟨w.heap.size, 6, none⟩ (.int .i64 st)).setCell ⟨w.heap.size, 7, none⟩ (.int .i64 ms)) (some w.heap.size) := gb_setCell (gb_setCell (gb_setCell (gb_setCell (gb_setCell (gb_setCell (gb_setCell (gb_setCell (gb_refl _ _) _) _) _) _) _) _) _) _
  have hF := gb_mine hRi.gr hFs (Nat.le_refl _)
  have hb9 := ((((((((hRi.br.set 0 (.slice (some ⟨g1, 0, none⟩) kl kl)).set 1 (.slice (some ⟨g2, 0, none⟩) vl vl)).set 2 (.int .u64 fl)).set 3 (.int .i64 ex)).set 4 (.int .i64 to)).set 5 (.int .u64 tk)).set 6 (.int .i64 st)).set 7 (.int .i64 ms))
  have hF1 := gb_trans (gb_trans (gb_trans (gb_trans (gb_trans (gb_trans (gb_trans hfb hfc) hfd) hfe) hff) hfg) hfh) hfi
  have hF2 := gb_trans (gb_trans (gb_trans (gb_trans (gb_trans hfd hfe) hff) hfg) hfh) hfi
  have hsz4 := hR4d.gr.size
  have hszb := hRb.gr.size
  have l1 := lt_of_block hha
  have l2 := lt_of_block hhc
  have m1 := (hF1.block g1 l1 (by simp)).trans hha
  have m2 := (hF2.block g2 l2 (by simp)).trans hhc
  have hlt4 := hR4d.br.lt
  have hltb := hRb.br.lt
  have m3 := (hFs.block g1 (lt_of_block m1) (by simp; omega)).trans m1
  have m4 := (hFs.block g2 (lt_of_block m2) (by simp; omega)).trans m2
  go_wp2
  generalize ((((((((wi.setCell ⟨w.heap.size, 0, none⟩ (.slice (some ⟨g1, 0, none⟩) kl kl)).setCell ⟨w.heap.size, 1, none⟩ (.slice (some ⟨g2, 0, none⟩) vl vl)).setCell ⟨w.heap.size, 2, none⟩ (.int .u64 fl)).setCell ⟨w.heap.size, 3, none⟩ (.int .i64 ex)).setCell ⟨w.heap.size, 4, none⟩ (.int .i64 to)).setCell ⟨w.heap.size, 5, none⟩ (.int .u64 tk)).setCell ⟨w.heap.size, 6, none⟩ (.int .i64 st)).setCell ⟨w.heap.size, 7, none⟩ (.int .i64 ms)) = V at *
  have x0 := hb9.cell 0
  have x1 := hb9.cell 1
  have x2 := hb9.cell 2
  have x3 := hb9.cell 3
  have x4 := hb9.cell 4
  have x5 := hb9.cell 5
  have x6 := hb9.cell 6
  have x7 := hb9.cell 7
  simp at x0 x1 x2 x3 x4 x5 x6 x7
  exact bodyPost_ret (v := .tuple #[.agg #[.slice (some ⟨g1, 0, none⟩) kl kl, .slice (some ⟨g2, 0, none⟩) vl vl, .int .u64 fl, .int .i64 ex, .int .i64 to, .int .u64 tk, .int .i64 st, .int .i64 ms], .int .i64 0]) (by simp [results, Tryz.results19, go_sem, x0, x1, x2, x3, x4, x5, x6, x7]) rfl ⟨g1, g2, rfl, hF, by omega, by omega, m3, m4⟩
end

end Go.Proofs.YtoomnhclaofgaaaGreat
