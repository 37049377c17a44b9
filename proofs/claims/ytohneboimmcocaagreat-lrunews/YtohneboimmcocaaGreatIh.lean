import Derived.Test.YtohneboimmcocaaGreatIg
/-
  What is read of an item: one number, the key.
-/
namespace Go.Proofs.YtohneboimmcocaaGreat
open Go.RowKit
set_option linter.unusedVariables false

theorem pw1 : pw 1 = 256 := by decide
theorem pw2 : pw 2 = 65536 := by decide
theorem pw4 : pw 4 = 4294967296 := by decide
theorem pw8 : pw 8 = 18446744073709551616 := by decide
theorem lies_get {zs : List Int} {pl : Nat} {L : List (List Int)} (h : Lies zs pl L.flatten) (i x n : Nat) (z : Int) (hs : L[i]? = some (be n z)) (hx : ((lens L).take i).sum = x) (h0 : 0 ≤ z) (h1 : z < pw n) : getL zs (pl + x) n 0 0 = z := by
  have hc := cut_seg L i _ hs
  rw [hx, be_len] at hc
  have hlt : i < (lens L).length := by
    have := (List.getElem?_eq_some_iff.1 hs).1
    simpa [lens] using this
  have hn : (lens L)[i]? = some n := by simp [lens, hs, be_len]
  have hsum : x + n ≤ L.flatten.length := by
    have h2 : (lens L) = (lens L).take i ++ (lens L).drop i := (List.take_append_drop _ _).symm
    have h3 : (lens L).drop i = n :: (lens L).drop (i + 1) := by
      rw [List.drop_eq_getElem_cons hlt]
      congr 1
      rw [List.getElem?_eq_getElem hlt] at hn
      simpa using hn
    rw [lens_flat, h2, h3]
    simp; omega
  have hle := h.le
  rw [getL_cut _ _ _ (by omega), h.cutE x n hsum, hc]
  exact be_val n z h0 h1

/-- An item lies at a place. -/
structure IsI (zs : List Int) (pl : Nat) (t : It) : Prop where
  lies : Lies zs pl t.L.flatten
  l0 : 0 ≤ t.l0 ∧ t.l0 < 4294967296
  l1 : 0 ≤ t.l1 ∧ t.l1 < 4294967296
  l2 : 0 ≤ t.l2 ∧ t.l2 < 4294967296
  gn : 0 ≤ t.gn ∧ t.gn < 4294967296
  ex : 0 ≤ t.ex ∧ t.ex < 9223372036854775808
  to : 0 ≤ t.to ∧ t.to < 9223372036854775808
  tk : 0 ≤ t.tk ∧ t.tk < 18446744073709551616
  fl : 0 ≤ t.fl ∧ t.fl < 4294967296
  st : 0 ≤ t.st ∧ t.st < 256
  ms : 0 ≤ t.ms ∧ t.ms < 256
  cl : 0 ≤ t.cl ∧ t.cl < 256
  k1 : 1 ≤ t.key.length ∧ t.key.length ≤ 250
  vn : t.val.length ≤ 1048576
  kb : isBytes t.key
  vb : isBytes t.val
theorem IsI.kl {zs : List Int} {pl : Nat} {t : It} (h : IsI zs pl t) : getL zs (pl + 44) 1 0 0 = t.key.length := lies_get h.lies 8 44 1 _ rfl (by rw [It.lens]; rfl) (by have := h.k1; omega) (by rw [pw1]; have := h.k1; omega)
theorem IsI.vl {zs : List Int} {pl : Nat} {t : It} (h : IsI zs pl t) : getL zs (pl + 48) 4 0 0 = t.val.length := lies_get h.lies 12 48 4 _ rfl (by rw [It.lens]; rfl) (by have := h.vn; omega) (by rw [pw4]; have := h.vn; omega)
theorem IsI.token {zs : List Int} {pl : Nat} {t : It} (h : IsI zs pl t) : getL zs (pl + 32) 8 0 0 = t.tk := lies_get h.lies 6 32 8 _ rfl (by rw [It.lens]; rfl) h.tk.1 (by rw [pw8]; exact h.tk.2)
theorem IsI.expiry {zs : List Int} {pl : Nat} {t : It} (h : IsI zs pl t) : getL zs (pl + 16) 8 0 0 = t.ex := lies_get h.lies 4 16 8 _ rfl (by rw [It.lens]; rfl) h.ex.1 (by rw [pw8]; have := h.ex; omega)
theorem IsI.touched {zs : List Int} {pl : Nat} {t : It} (h : IsI zs pl t) : getL zs (pl + 24) 8 0 0 = t.to := lies_get h.lies 5 24 8 _ rfl (by rw [It.lens]; rfl) h.to.1 (by rw [pw8]; have := h.to; omega)
theorem IsI.flags {zs : List Int} {pl : Nat} {t : It} (h : IsI zs pl t) : getL zs (pl + 40) 4 0 0 = t.fl := lies_get h.lies 7 40 4 _ rfl (by rw [It.lens]; rfl) h.fl.1 (by rw [pw4]; exact h.fl.2)
theorem IsI.state {zs : List Int} {pl : Nat} {t : It} (h : IsI zs pl t) : getL zs (pl + 45) 1 0 0 = t.st := lies_get h.lies 9 45 1 _ rfl (by rw [It.lens]; rfl) h.st.1 (by rw [pw1]; exact h.st.2)
theorem IsI.marks {zs : List Int} {pl : Nat} {t : It} (h : IsI zs pl t) : getL zs (pl + 46) 1 0 0 = t.ms := lies_get h.lies 10 46 1 _ rfl (by rw [It.lens]; rfl) h.ms.1 (by rw [pw1]; exact h.ms.2)
theorem IsI.key {zs : List Int} {pl : Nat} {t : It} (h : IsI zs pl t) : cut zs (pl + 56) t.key.length = t.key := by
  have hc := cut_seg t.L 14 t.key rfl
  rw [It.lens] at hc
  rw [h.lies.cutE _ _ (by rw [It.len]; omega)]
  exact hc
theorem IsI.value {zs : List Int} {pl : Nat} {t : It} (h : IsI zs pl t) : cut zs (pl + (56 + t.key.length)) t.val.length = t.val := by
  have hc := cut_seg t.L 15 t.val rfl
  rw [It.lens] at hc
  rw [h.lies.cutE _ _ (by rw [It.len]; omega)]
  have e : ((ns t.key.length t.val.length).take 15).sum = 56 + t.key.length := by simp [ns]; omega
  rw [e] at hc
  exact hc

section
variable {w : World} {sb : Nat} {F : Nat → Prop} {B : Bl} {b c d e f g : Int} {A : Ab} {zs : List Int}

/-- hasItem of an item's chunk. -/
theorem hasItem_it (h : IsS w sb F B b c d e f g A zs) (hA : Fit2 A) {p k : Nat} (hp : p < A.np) (hk : k < A.each (A.own p)) (kl : Nat) (hkl : Hid (getL zs (A.place p k + 44) 1 0 0 = kl)) (hk2 : kl < 256) {w1 : World} (hf : w.grownBy w1 none) :
    Calls Tryz.prog 123 #[chV B.ab (A.place p k) (A.own p) (A.sz (A.own p))] w1 fun y w' => y = .returned (.bool (decide (0 < kl))) ∧ w1.grownBy w' none := by
  have hP := pl_of h hA.toFit1 hp hk
  have h64 := hA.lo _ (hA.on p hp)
  exact hasItem_any ((h.kept0 hf).ar) _ _ _ hP.hb.1 (hP.th 44 1 (by omega)) kl hkl hk2

set_option maxRecDepth 100000 in
set_option maxHeartbeats 1000000 in
theorem openItem_yes (h : IsS w sb F B b c d e f g A zs) (hA : Fit2 A) {H p k : Nat} (hH : IsH A H p k) (kl : Nat) (hkl : Hid (getL zs (A.place p k + 44) 1 0 0 = kl)) (hk2 : 0 < kl ∧ kl < 256) :
    Calls Tryz.prog 157 #[.pointer (some ⟨sb, 0, none⟩), .int .u64 H] w fun y w' => y = .returned (.tuple #[chV B.ab (A.place p k) (A.own p) (A.sz (A.own p)), .int .i64 0]) ∧ w.grownBy w' none := by
  have hal := World.grownBy_alloc w (.cells #[.pointer none, .int .i64 0, .int .i64 0, .int .i64 0] 190) none
  have hop := (open_yes (h.kept0 hal) hA hH).mono (R' := fun y w' => y = .returned (.tuple #[chV B.ab (A.place p k) (A.own p) (A.sz (A.own p)), .int .i64 0]) ∧ w.grownBy w' none ∧ Box w' 190 w.heap.size #[.pointer none, .int .i64 0, .int .i64 0, .int .i64 0]) (by
    rintro y w' ⟨rfl, hf⟩
    exact ⟨rfl, gb_trans hal hf, (Box.new _ _ _).kept hf (by simp)⟩)
  have hhi := fun w1 (hf : w.grownBy w1 none) => hasItem_it h hA hH.hp hH.hk kl hkl hk2.2 hf
  rw [show decide (0 < kl) = true by simpa using hk2.1] at hhi
  clear h hH hkl
  unfold chV at *
  generalize A.place p k = pl at *
  generalize A.sz (A.own p) = s at *
  generalize A.own p = op at *
  generalize B.ab = ab at *
  go_enter Tryz.func157, Tryz.ntmps157
  go_wp2_with (first | (go_at_call 122; go_must (refine hop.mono ?_); rintro y w1 ⟨rfl, hf1, hb1⟩; (have hs1 := hb1.lt); (have hf2 : w.grownBy (w1.alloc (.cells #[.pointer (some ⟨ab, 0, none⟩), .int .i64 pl, .int .i64 op, .int .i64 s] 190)) none := gb_alloc hf1 _); (have hb2 := hb1.kept (World.grownBy_alloc w1 (.cells #[.pointer (some ⟨ab, 0, none⟩), .int .i64 pl, .int .i64 op, .int .i64 s] 190) none) (by simp)); (have hc2 := Box.new w1 190 #[.pointer (some ⟨ab, 0, none⟩), .int .i64 pl, .int .i64 op, .int .i64 s])) | (go_at_call 123; go_must (refine (hhi _ hf2).mono ?_); rintro y w3 ⟨rfl, hf3⟩; (have hb3 := hb2.kept hf3 (by simp)); (have hc3 := hc2.kept hf3 (by simp)); (have z0 := hc3.cell 0); (have z1 := hc3.cell 1); (have z2 := hc3.cell 2); (have z3 := hc3.cell 3); simp at z0 z1 z2 z3; (have y0 := hb3.fz 0); (have y1 := hb3.fz 1); (have y2 := hb3.fz 2); (have y3 := hb3.fz 3); (have v0 := hb3.cell 0); (have v1 := hb3.cell 1); (have v2 := hb3.cell 2); (have v3 := hb3.cell 3); simp at v0 v1 v2 v3) | fail)
  have hF : w.grownBy ((((w3.setCell ⟨w.heap.size, 0, none⟩ (.pointer (some ⟨ab, 0, none⟩))).setCell ⟨w.heap.size, 1, none⟩ (.int .i64 pl)).setCell ⟨w.heap.size, 2, none⟩ (.int .i64 op)).setCell ⟨w.heap.size, 3, none⟩ (.int .i64 s)) none := gb_mine (gb_trans hf2 hf3) (gb_setCell (gb_setCell (gb_setCell (gb_setCell (gb_refl _ _) _) _) _) _) (Nat.le_refl _)
  have hb4 := (((hb3.set 0 (.pointer (some ⟨ab, 0, none⟩))).set 1 (.int .i64 pl)).set 2 (.int .i64 op)).set 3 (.int .i64 s)
  generalize ((((w3.setCell ⟨w.heap.size, 0, none⟩ (.pointer (some ⟨ab, 0, none⟩))).setCell ⟨w.heap.size, 1, none⟩ (.int .i64 pl)).setCell ⟨w.heap.size, 2, none⟩ (.int .i64 op)).setCell ⟨w.heap.size, 3, none⟩ (.int .i64 s)) = V at *
  have x0 := hb4.cell 0
  have x1 := hb4.cell 1
  have x2 := hb4.cell 2
  have x3 := hb4.cell 3
  simp at x0 x1 x2 x3
  exact bodyPost_ret (v := .tuple #[.agg #[.pointer (some ⟨ab, 0, none⟩), .int .i64 pl, .int .i64 op, .int .i64 s], .int .i64 0]) (by simp [results, Tryz.results157, go_sem, x0, x1, x2, x3]) rfl ⟨rfl, hF⟩

set_option maxRecDepth 100000 in
set_option maxHeartbeats 1000000 in
theorem openItem_nil (H : Int) (w : World) :
    Calls Tryz.prog 157 #[.pointer none, .int .u64 H] w fun y w' => y = .returned (.tuple #[.agg #[.pointer none, .int .i64 0, .int .i64 0, .int .i64 0], .int .i64 1]) ∧ w.grownBy w' none := by
  have hal := World.grownBy_alloc w (.cells #[.pointer none, .int .i64 0, .int .i64 0, .int .i64 0] 190) none
  have hop := fun W => open_nil H W
  have hb0 := Box.new w 190 #[.pointer none, .int .i64 0, .int .i64 0, .int .i64 0]
  go_enter Tryz.func157, Tryz.ntmps157
  go_wp2_with (first | (go_at_call 122; go_must (refine (hop _).mono ?_); rintro y w1 ⟨rfl, hf1⟩; (have hb1 := hb0.kept hf1 (by simp)); (have hs1 := hb1.lt); (have hf2 : w.grownBy (w1.alloc (.cells #[.pointer none, .int .i64 0, .int .i64 0, .int .i64 0] 190)) none := gb_alloc (gb_trans hal hf1) _); (have hb3 := hb1.kept (World.grownBy_alloc w1 (.cells #[.pointer none, .int .i64 0, .int .i64 0, .int .i64 0] 190) none) (by simp)); (have hne : ¬ w.heap.size = w1.heap.size := by omega); (have u0 := hb1.cell 0); (have u1 := hb1.cell 1); (have u2 := hb1.cell 2); (have u3 := hb1.cell 3); simp at u0 u1 u2 u3; (have t0 := hb1.fz 0); (have t1 := hb1.fz 1); (have t2 := hb1.fz 2); (have t3 := hb1.fz 3); (have hne2 : ¬ w1.heap.size = w.heap.size := by omega); (have y0 := hb3.fz 0); (have y1 := hb3.fz 1); (have y2 := hb3.fz 2); (have y3 := hb3.fz 3); (have v0 := hb3.cell 0); (have v1 := hb3.cell 1); (have v2 := hb3.cell 2); (have v3 := hb3.cell 3); simp at v0 v1 v2 v3) | fail)
  have hF0 : w.grownBy ((((w1.setCell ⟨w.heap.size, 0, none⟩ (.pointer none)).setCell ⟨w.heap.size, 1, none⟩ (.int .i64 0)).setCell ⟨w.heap.size, 2, none⟩ (.int .i64 0)).setCell ⟨w.heap.size, 3, none⟩ (.int .i64 0)) none := gb_mine (gb_trans hal hf1) (gb_setCell (gb_setCell (gb_setCell (gb_setCell (gb_refl _ _) _) _) _) _) (Nat.le_refl _)
  have hb4 := ((((hb1.set 0 (.pointer none)).set 1 (.int .i64 0)).set 2 (.int .i64 0)).set 3 (.int .i64 0))
  generalize ((((w1.setCell ⟨w.heap.size, 0, none⟩ (.pointer none)).setCell ⟨w.heap.size, 1, none⟩ (.int .i64 0)).setCell ⟨w.heap.size, 2, none⟩ (.int .i64 0)).setCell ⟨w.heap.size, 3, none⟩ (.int .i64 0)) = V at *
  have hF := gb_alloc hF0 (.cells #[.pointer none, .int .i64 0, .int .i64 0, .int .i64 0] 190)
  have hb5 := hb4.kept (World.grownBy_alloc V (.cells #[.pointer none, .int .i64 0, .int .i64 0, .int .i64 0] 190) none) (by simp)
  have x0 := hb5.cell 0
  have x1 := hb5.cell 1
  have x2 := hb5.cell 2
  have x3 := hb5.cell 3
  simp at x0 x1 x2 x3
  generalize V.alloc (.cells #[.pointer none, .int .i64 0, .int .i64 0, .int .i64 0] 190) = V2 at *
  exact bodyPost_ret (v := .tuple #[.agg #[.pointer none, .int .i64 0, .int .i64 0, .int .i64 0], .int .i64 1]) (by simp [results, Tryz.results157, go_sem, x0, x1, x2, x3]) rfl ⟨rfl, hF⟩

end

end Go.Proofs.YtohneboimmcocaaGreat
