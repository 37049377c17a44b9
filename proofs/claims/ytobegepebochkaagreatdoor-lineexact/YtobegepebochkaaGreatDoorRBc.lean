import Derived.Deep.RegionLaw
import Derived.Test.YtobegepebochkaaGreatDoorRBb
set_option linter.unusedVariables false
set_option linter.unusedSimpArgs false
set_option maxRecDepth 100000
set_option maxHeartbeats 16000000
namespace Go.Proofs.YtobegepebochkaaGreatDoor
open Go.RowKit
theorem ty_of {sl el : TypeId} {z : Value} {sz bs : Nat} (hu : Tryz.prog.underlying sl = some (.slice el)) (hi : (Tryz.prog.info? el).map (fun i => (i.zero, i.size, i.bytes)) = some (some z, sz, bs)) (hz : z.cells.size = sz) (h0 : 0 < sz) (hb : bs <= 1000) : ∃ ti, Ty sl el ti z sz bs := by
  obtain ⟨i0, hi0, hz0, hz1, hz2⟩ := info_parts hi
  exact ⟨i0, hu, hi0, hz0, hz1, hz2, hz, h0, hb⟩
theorem ty_38 : ∃ ti, Ty 38 5 ti (.int .u8 0) 1 1 := ty_of Tryz.underlying38 (by kernel_rfl) rfl (by omega) (by omega)
theorem ty_22 : ∃ ti, Ty 22 38 ti (.slice none 0 0) 1 24 := ty_of Tryz.underlying22 (by kernel_rfl) rfl (by omega) (by omega)
theorem ty_36 : ∃ ti, Ty 36 9 ti (.string ⟨#[]⟩) 1 16 := ty_of Tryz.underlying36 (by kernel_rfl) rfl (by omega) (by omega)
theorem ty_25 : ∃ ti, Ty 25 36 ti (.slice none 0 0) 1 24 := ty_of Tryz.underlying25 (by kernel_rfl) rfl (by omega) (by omega)
def nilS : Value := .slice none 0 0
def bkA (b0 b1 b2 b3 t0 t1 t2 t3 s0 s1 s2 : Value) (n : Int) : Array Value := #[b0, b1, b2, b3, nilS, nilS, nilS, nilS, t0, t1, t2, t3, nilS, nilS, nilS, nilS, nilS, nilS, nilS, nilS, nilS, nilS, s0, s1, s2, nilS, .int .i64 n]
section
variable {w : World} {bb : Nat} {b0 b1 b2 b3 t0 t1 t2 t3 s0 s1 s2 : Value} {n : Int} {F : Nat -> Prop} {K : Nat} {V W : Nat -> Value} {N : Nat -> Nat} {D : Nat -> List Value}
theorem full_65 (h : Box w 31 bb (bkA b0 b1 b2 b3 t0 t1 t2 t3 s0 s1 s2 n)) : Calls Tryz.prog 65 #[.pointer (some ⟨bb, 0, none⟩)] w fun y w' => y = .returned (.bool (decide (200000 < n))) /\ w' = w := by
  have c : w.cell? ⟨bb, 26, none⟩ = some (.int .i64 n) := h.cell 26
  go_enter Tryz.func65, Tryz.ntmps65
  go_wp2
  go_ret
  exact ⟨by simp, rfl⟩
theorem full_20 (h : Box w 31 bb (bkA b0 b1 b2 b3 t0 t1 t2 t3 s0 s1 s2 n)) (hn : 200000 < n) (v : Value) : Calls Tryz.prog 20 #[.pointer (some ⟨bb, 0, none⟩), v] w fun y w' => y = .returned (.tuple #[]) /\ w' = w := by
  have h63 := full_65 h
  rw [decide_eq_true hn] at h63
  go_enter Tryz.func20, Tryz.ntmps20
  go_wp2_with (first | (go_at_call 65; go_must (refine h63.mono ?_); rintro y w1 ⟨rfl, hw1⟩; have hw2 := hw1.symm; subst hw2) | fail)
  exact bodyPost_ret (v := .tuple #[]) (results_none Tryz.results20 _ _ _) rfl ⟨rfl, rfl⟩
theorem keep_20 (h : Box w 31 bb (bkA b0 b1 b2 b3 t0 t1 t2 t3 s0 s1 s2 n)) (hd : Kd w F 38 5 1 b0 b1 K K V W N D) (hnb : 0 <= n /\ n <= 200000) (hK : K < 10000000) {vao : Option Addr} {vcp m : Nat} {xs : List Value} (hv0 : w.ownsRow 0 5 1 (.slice vao m vcp) m xs) (hoc : ∀ u ∈ xs, u.oneCell' = true) (hxl : m <= 1000000) (hvF : ∀ g, (Value.slice vao m vcp).ownBlock = some g -> ¬ F g) :
    Calls Tryz.prog 20 #[.pointer (some ⟨bb, 0, none⟩), .slice vao m vcp] w fun y w' => y = .returned (.tuple #[]) /\ Kp (fun k => k = bb \/ F k) w w' /\ ∃ q0 q1 F' V' W', Box w' 31 bb (bkA q0 q1 b2 b3 t0 t1 t2 t3 s0 s1 s2 (n + m + 1)) /\ Kd w' F' 38 5 1 q0 q1 (K + 1) (K + 1) V' W' (upd N K m) (upd D K xs) /\ ∀ k, F' k -> F k \/ (Value.slice vao m vcp).ownBlock = some k \/ w.heap.size <= k := by
  have h63 := full_65 h
  rw [decide_eq_false (show ¬ 200000 < n by omega)] at h63
  obtain ⟨tO, TO⟩ := ty_22
  obtain ⟨tI, TI⟩ := ty_38
  obtain ⟨hao, hcp, hdh, _, _, _, _⟩ := row_shape hd.hr
  subst hdh
  obtain ⟨wao, wcp, hdw, _, _, _, _⟩ := row_shape hd.wr
  subst hdw
  have c26 : w.cell? ⟨bb, 26, none⟩ = some (.int .i64 n) := h.cell 26
  have f26 := h.fz 26
  have hwn : IntKind.i64.wrap (n + m) = n + m := by rw [IntKind.wrap_i64]; omega
  have hwn2 : IntKind.i64.wrap (n + m + 1) = n + m + 1 := by rw [IntKind.wrap_i64]; omega
  have hbF : ¬ F bb := hd.not h (by decide) (by decide)
  have hg1 : w.grownBy (w.setCell ⟨bb, 26, none⟩ (.int .i64 (n + m + 1))) (some bb) := gb_setCell (gb_refl _ _) _
  have hb1 : Box (w.setCell ⟨bb, 26, none⟩ (.int .i64 (n + m + 1))) 31 bb (bkA (.slice hao K hcp) (.slice wao K wcp) b2 b3 t0 t1 t2 t3 s0 s1 s2 (n + m + 1)) := h.set 26 _
  have hbk : ∀ k, F k -> some k ≠ some bb := fun k hk e => hbF (by have := Option.some.inj e; subst this; exact hk)
  have hd1 := hd.kept hg1 hbk
  have hv1 := row_kept hv0 hg1 (fun k hk e => by obtain ⟨c, hc⟩ := row_block hv0 k hk; exact ne_of_type hc h (by decide) (Option.some.inj e))
  have hr1 := hd1.hr
  have c12 : (w.setCell ⟨bb, 26, none⟩ (.int .i64 (n + m + 1))).cell? ⟨bb, 0, none⟩ = some (.slice hao K hcp) := hb1.cell 0
  have hK1 : Kp (fun k => k = bb \/ F k) w (w.setCell ⟨bb, 26, none⟩ (.int .i64 (n + m + 1))) := (Kp.refl _ w).step hg1 (fun j hj => by injection hj with hj; subst hj; exact .inl (.inl rfl))
  have hfl := hd.fl
  have hfh := hd.fh
  have hfw := hd.fw
  have hvlt : ∀ g, (Value.slice vao m vcp).ownBlock = some g -> g < w.heap.size := fun g hg => (row_ge hv0 hg).2
  clear hd
  go_enter Tryz.func20, Tryz.ntmps20
  go_wp2_with (first | (go_at_call 65; go_must (refine h63.mono ?_); rintro y w1 ⟨rfl, hw1⟩; have hw2 := hw1.symm; subst hw2) | (at_builtin; go_must (refine pushB TO rfl _ _ rfl 0 _ K _ (by rfl) hr1 [.slice vao m vcp] rfl (by simp [Value.oneCell']) (by rw [show (w.setCell ⟨bb, 26, none⟩ (.int .i64 (n + m + 1))).heap.size = w.heap.size by simp]; rfl) (by omega) (Nat.zero_le _) ?_)) | fail)
  intro g2 cap2 w2 hrow2 hgb2 hat2
  have hd2 := hd1.pushV hv1 hvF hxl hoc hrow2 hgb2 (fun g hg => by simp [Value.ownBlock] at hg; subst hg; exact hat2.imp id (fun e => by simpa using e))
  have hb2 := hb1.kept hgb2 (fun e => hbF (hfh _ e.symm))
  have f12 := hb2.fz 0
  have k12 : w2.cell? ⟨bb, 0, none⟩ = some (.slice hao K hcp) := hb2.cell 0
  have hg3 : w2.grownBy (w2.setCell ⟨bb, 0, none⟩ (.slice (some ⟨g2, 0, none⟩) (K + 1) cap2)) (some bb) := gb_setCell (gb_refl _ _) _
  have hb3 : Box (w2.setCell ⟨bb, 0, none⟩ (.slice (some ⟨g2, 0, none⟩) (K + 1) cap2)) 31 bb (bkA (.slice (some ⟨g2, 0, none⟩) (K + 1) cap2) (.slice wao K wcp) b2 b3 t0 t1 t2 t3 s0 s1 s2 (n + m + 1)) := hb2.set 0 _
  have hs12 : w.heap.size <= w2.heap.size := Nat.le_trans hg1.size hgb2.size
  have hd3 := hd2.kept hg3 (fun k hk e => hd2.not hb2 (by decide) (by decide) (by have := Option.some.inj e; subst this; exact hk))
  have hK3 : Kp (fun k => k = bb \/ F k) w (w2.setCell ⟨bb, 0, none⟩ (.slice (some ⟨g2, 0, none⟩) (K + 1) cap2)) := (hK1.step hgb2 (fun j hj => .inl (.inr (hfh j hj)))).step hg3 (fun j hj => by injection hj with hj; subst hj; exact .inl (.inl rfl))
  have hF3 : ∀ k, ((F k /\ (Value.slice hao K hcp).ownBlock ≠ some k) \/ (Value.slice vao m vcp).ownBlock = some k \/ (Value.slice (some ⟨g2, 0, none⟩) (K + 1) cap2).ownBlock = some k) -> F k \/ (Value.slice vao m vcp).ownBlock = some k \/ w.heap.size <= k := by
    rintro k (⟨hk, _⟩ | hk | hk)
    . exact .inl hk
    . exact .inr (.inl hk)
    . simp [Value.ownBlock] at hk
      subst hk
      rcases hat2 with e | e
      . exact .inl (hfh _ e)
      . exact .inr (.inr e)
  have hv3 := hd3.vs K (by omega)
  rw [upd_same, upd_same, upd_same] at hv3
  have hw3 := hd3.wr
  generalize hFF : (fun k => (F k /\ (Value.slice hao K hcp).ownBlock ≠ some k) \/ (Value.slice vao m vcp).ownBlock = some k \/ (Value.slice (some ⟨g2, 0, none⟩) (K + 1) cap2).ownBlock = some k) = F3 at hd3
  have hF4 : ∀ k, F3 k -> F k \/ (Value.slice vao m vcp).ownBlock = some k \/ w.heap.size <= k := fun k hk => hF3 k (by rw [<- hFF] at hk; exact hk)
  clear hrow2 hgb2 hat2 hb2 hb1 hr1 hg1 hg3 c12 c26 f26 h63 hK1 hd2 hd1 hv1 hF3 hFF
  go_wp2
  clear f12 k12
  generalize hX : w2.setCell ⟨bb, 0, none⟩ (.slice (some ⟨g2, 0, none⟩) (K + 1) cap2) = X at *
  have k13 : X.cell? ⟨bb, 1, none⟩ = some (.slice wao K wcp) := hb3.cell 1
  have k13a := fun o => gb_cellN (World.grownBy_alloc X o none) k13
  have hbl := hb3.lt
  have hE0 : ∀ Y : World, Y.heap.size = X.heap.size -> (Y.alloc (.cells #[] 5)).ownsRow X.heap.size 5 1 (.slice (some ⟨X.heap.size, 0, none⟩) 0 0) 0 [] := fun Y hY => ⟨rfl, .inr ⟨X.heap.size, 0, #[], rfl, Nat.le_refl _, by rw [<- hY]; exact heap_alloc_new Y _, Nat.le_refl _, by unfold maxLen; omega, rfl, rfl⟩⟩
  have hXw := hK3.size
  have HV : Hid (X.ownsRow 0 5 1 (.slice vao m vcp) m xs) := hv3
  have HW : Hid (X.ownsRow 0 38 1 (.slice wao K wcp) K (vsL W K)) := hw3
  have HB : Hid (Box X 31 bb (bkA (.slice (some ⟨g2, 0, none⟩) (K + 1) cap2) (.slice wao K wcp) b2 b3 t0 t1 t2 t3 s0 s1 s2 (n + m + 1))) := hb3
  have HD : Hid _ := hd3
  have HK3 : Hid _ := hK3
  clear hd3 hv3 hw3 hb3 hX hK3
  go_region_law ((first | (refine step_copy TI (xs := xs) (n := m) (v := .slice vao m vcp) (g0 := X.heap.size) (by rfl) (.tmp 32) (.tmp 33) (by rfl) (by rfl) X.heap.size (hE0 _ (by rfl)) (World.ownsRow.alloc (show World.ownsRow _ 0 5 1 _ _ _ from HV.out) _) hoc (by rfl) hxl (by simp) ?_; intro gC cC w5 hown5 hgr5 hat5; have hg5 : X.grownBy w5 (some X.heap.size) := gb_trans (by first | exact gb_drew (gb_alloc (gb_refl _ _) _) | exact gb_alloc (gb_drew (gb_refl _ _)) _) hgr5; have b5 := HB.out.kept hg5 (some_ne2 (by omega)); have m13 : w5.cell? ⟨bb, 1, none⟩ = some (.slice wao K wcp) := b5.cell 1; have m13a := (fun o => gb_cellN (World.grownBy_alloc w5 o none) m13); have hwr5 := row_kept HW.out hg5 (fun j hj e => (by have := (row_ge HW.out hj).2; have := Option.some.inj e; omega))) | (refine step_push TO (w5 := w5) (by rfl) (.tmp 31) (.tmp 35) (by rfl) 0 (.slice wao K wcp) K _ (by rfl) [.slice (some ⟨gC, 0, none⟩) m cC] rfl (by simp [Value.oneCell']) (by rfl) hwr5 (by rfl) (by omega) (Nat.zero_le _) ?_; intro g7 c7 w7 hown7 hg7 hat7; have b7 := b5.kept hg7 (fun e => hbF (hfw _ e.symm)); have m7 : w7.cell? ⟨bb, 1, none⟩ = some (.slice wao K wcp) := b7.cell 1; have f7 : w7.frozen? ⟨bb, 1, none⟩ = false := b7.fz 1)))
  all_goals
    have h5s := hg5.size
    have hC := row_ge hown5 (j := gC) rfl
    have hd5 := HD.out.kept hg5 (fun k hk e => by have := HD.out.fl k hk; have := Option.some.inj e; omega)
    have hd7 := hd5.pushW (by omega) (v := .slice (some ⟨gC, 0, none⟩) m cC) (by rw [upd_same, upd_same]; exact row_base hown5 (Nat.zero_le _)) (fun g hg hk => by have := HD.out.fl g hk; simp [Value.ownBlock] at hg; omega) hown7 hg7 (fun g hg => by simp [Value.ownBlock] at hg; subst hg; exact hat7)
    have hgs : w7.grownBy (w7.setCell ⟨bb, 1, none⟩ (.slice (some ⟨g7, 0, none⟩) (K + 1) c7)) (some bb) := gb_setCell (gb_refl _ _) _
    have hpost : Kp (fun k => k = bb \/ F k) w (w7.setCell ⟨bb, 1, none⟩ (.slice (some ⟨g7, 0, none⟩) (K + 1) c7)) /\ ∃ q0 q1 F' V' W', Box (w7.setCell ⟨bb, 1, none⟩ (.slice (some ⟨g7, 0, none⟩) (K + 1) c7)) 31 bb (bkA q0 q1 b2 b3 t0 t1 t2 t3 s0 s1 s2 (n + m + 1)) /\ Kd (w7.setCell ⟨bb, 1, none⟩ (.slice (some ⟨g7, 0, none⟩) (K + 1) c7)) F' 38 5 1 q0 q1 (K + 1) (K + 1) V' W' (upd N K m) (upd D K xs) /\ ∀ k, F' k -> F k \/ (Value.slice vao m vcp).ownBlock = some k \/ w.heap.size <= k := by
      refine ⟨((HK3.out.step hg5 (fun j hj => by have := Option.some.inj hj; exact .inr (by omega))).step hg7 (fun j hj => .inl (.inr (hfw j hj)))).step hgs (fun j hj => .inl (.inl (Option.some.inj hj).symm)), .slice (some ⟨g2, 0, none⟩) (K + 1) cap2, .slice (some ⟨g7, 0, none⟩) (K + 1) c7, _, _, _, b7.set 1 _, hd7.kept hgs (fun k hk e => hd7.not b7 (by decide) (by decide) (by have := Option.some.inj e; subst this; exact hk)), ?_⟩
      rintro k (⟨hk, _⟩ | hk | hk)
      . exact hF4 k hk
      . simp [Value.ownBlock] at hk; exact .inr (.inr (by omega))
      . simp [Value.ownBlock] at hk
        subst hk
        rcases hat7 with e | e
        . exact .inl (hfw _ e)
        . exact .inr (.inr (by omega))
    have HP : Hid _ := hpost
    clear hpost hown5 hown7 hgr5 hg5 hg7 b5 b7 m13 m13a HV HW HB HD HK3 hat5 hat7 hwr5 hd5 hd7 hgs
    go_wp2
    go_end0
    exact ⟨rfl, HP.out⟩
theorem full_19 (h : Box w 31 bb (bkA b0 b1 b2 b3 t0 t1 t2 t3 s0 s1 s2 n)) (hn : 200000 < n) (v : Value) : Calls Tryz.prog 19 #[.pointer (some ⟨bb, 0, none⟩), v] w fun y w' => y = .returned (.tuple #[]) /\ w' = w := by
  have h63 := full_65 h
  rw [decide_eq_true hn] at h63
  go_enter Tryz.func19, Tryz.ntmps19
  go_wp2_with (first | (go_at_call 65; go_must (refine h63.mono ?_); rintro y w1 ⟨rfl, hw1⟩; have hw2 := hw1.symm; subst hw2) | fail)
  exact bodyPost_ret (v := .tuple #[]) (results_none Tryz.results19 _ _ _) rfl ⟨rfl, rfl⟩
theorem keep_19 (h : Box w 31 bb (bkA b0 b1 b2 b3 t0 t1 t2 t3 s0 s1 s2 n)) (hd : Kd w F 36 9 1 t0 t1 K K V W N D) (hnb : 0 <= n /\ n <= 200000) (hK : K < 10000000) {vao : Option Addr} {vcp m : Nat} {xs : List Value} (hv0 : w.ownsRow 0 9 1 (.slice vao m vcp) m xs) (hoc : ∀ u ∈ xs, u.oneCell' = true) (hxl : m <= 1000000) (hvF : ∀ g, (Value.slice vao m vcp).ownBlock = some g -> ¬ F g) :
    Calls Tryz.prog 19 #[.pointer (some ⟨bb, 0, none⟩), .slice vao m vcp] w fun y w' => y = .returned (.tuple #[]) /\ Kp (fun k => k = bb \/ F k) w w' /\ ∃ q0 q1 F' V' W', Box w' 31 bb (bkA b0 b1 b2 b3 q0 q1 t2 t3 s0 s1 s2 (n + m + 1)) /\ Kd w' F' 36 9 1 q0 q1 (K + 1) (K + 1) V' W' (upd N K m) (upd D K xs) /\ ∀ k, F' k -> F k \/ (Value.slice vao m vcp).ownBlock = some k \/ w.heap.size <= k := by
  have h63 := full_65 h
  rw [decide_eq_false (show ¬ 200000 < n by omega)] at h63
  obtain ⟨tO, TO⟩ := ty_25
  obtain ⟨tI, TI⟩ := ty_36
  obtain ⟨hao, hcp, hdh, _, _, _, _⟩ := row_shape hd.hr
  subst hdh
  obtain ⟨wao, wcp, hdw, _, _, _, _⟩ := row_shape hd.wr
  subst hdw
  have c26 : w.cell? ⟨bb, 26, none⟩ = some (.int .i64 n) := h.cell 26
  have f26 := h.fz 26
  have hwn : IntKind.i64.wrap (n + m) = n + m := by rw [IntKind.wrap_i64]; omega
  have hwn2 : IntKind.i64.wrap (n + m + 1) = n + m + 1 := by rw [IntKind.wrap_i64]; omega
  have hbF : ¬ F bb := hd.not h (by decide) (by decide)
  have hg1 : w.grownBy (w.setCell ⟨bb, 26, none⟩ (.int .i64 (n + m + 1))) (some bb) := gb_setCell (gb_refl _ _) _
  have hb1 : Box (w.setCell ⟨bb, 26, none⟩ (.int .i64 (n + m + 1))) 31 bb (bkA b0 b1 b2 b3 (.slice hao K hcp) (.slice wao K wcp) t2 t3 s0 s1 s2 (n + m + 1)) := h.set 26 _
  have hbk : ∀ k, F k -> some k ≠ some bb := fun k hk e => hbF (by have := Option.some.inj e; subst this; exact hk)
  have hd1 := hd.kept hg1 hbk
  have hv1 := row_kept hv0 hg1 (fun k hk e => by obtain ⟨c, hc⟩ := row_block hv0 k hk; exact ne_of_type hc h (by decide) (Option.some.inj e))
  have hr1 := hd1.hr
  have c12 : (w.setCell ⟨bb, 26, none⟩ (.int .i64 (n + m + 1))).cell? ⟨bb, 8, none⟩ = some (.slice hao K hcp) := hb1.cell 8
  have hK1 : Kp (fun k => k = bb \/ F k) w (w.setCell ⟨bb, 26, none⟩ (.int .i64 (n + m + 1))) := (Kp.refl _ w).step hg1 (fun j hj => by injection hj with hj; subst hj; exact .inl (.inl rfl))
  have hfl := hd.fl
  have hfh := hd.fh
  have hfw := hd.fw
  have hvlt : ∀ g, (Value.slice vao m vcp).ownBlock = some g -> g < w.heap.size := fun g hg => (row_ge hv0 hg).2
  clear hd
  go_enter Tryz.func19, Tryz.ntmps19
  go_wp2_with (first | (go_at_call 65; go_must (refine h63.mono ?_); rintro y w1 ⟨rfl, hw1⟩; have hw2 := hw1.symm; subst hw2) | (at_builtin; go_must (refine pushB TO rfl _ _ rfl 0 _ K _ (by rfl) hr1 [.slice vao m vcp] rfl (by simp [Value.oneCell']) (by rw [show (w.setCell ⟨bb, 26, none⟩ (.int .i64 (n + m + 1))).heap.size = w.heap.size by simp]; rfl) (by omega) (Nat.zero_le _) ?_)) | fail)
  intro g2 cap2 w2 hrow2 hgb2 hat2
  have hd2 := hd1.pushV hv1 hvF hxl hoc hrow2 hgb2 (fun g hg => by simp [Value.ownBlock] at hg; subst hg; exact hat2.imp id (fun e => by simpa using e))
  have hb2 := hb1.kept hgb2 (fun e => hbF (hfh _ e.symm))
  have f12 := hb2.fz 8
  have k12 : w2.cell? ⟨bb, 8, none⟩ = some (.slice hao K hcp) := hb2.cell 8
  have hg3 : w2.grownBy (w2.setCell ⟨bb, 8, none⟩ (.slice (some ⟨g2, 0, none⟩) (K + 1) cap2)) (some bb) := gb_setCell (gb_refl _ _) _
  have hb3 : Box (w2.setCell ⟨bb, 8, none⟩ (.slice (some ⟨g2, 0, none⟩) (K + 1) cap2)) 31 bb (bkA b0 b1 b2 b3 (.slice (some ⟨g2, 0, none⟩) (K + 1) cap2) (.slice wao K wcp) t2 t3 s0 s1 s2 (n + m + 1)) := hb2.set 8 _
  have hs12 : w.heap.size <= w2.heap.size := Nat.le_trans hg1.size hgb2.size
  have hd3 := hd2.kept hg3 (fun k hk e => hd2.not hb2 (by decide) (by decide) (by have := Option.some.inj e; subst this; exact hk))
  have hK3 : Kp (fun k => k = bb \/ F k) w (w2.setCell ⟨bb, 8, none⟩ (.slice (some ⟨g2, 0, none⟩) (K + 1) cap2)) := (hK1.step hgb2 (fun j hj => .inl (.inr (hfh j hj)))).step hg3 (fun j hj => by injection hj with hj; subst hj; exact .inl (.inl rfl))
  have hF3 : ∀ k, ((F k /\ (Value.slice hao K hcp).ownBlock ≠ some k) \/ (Value.slice vao m vcp).ownBlock = some k \/ (Value.slice (some ⟨g2, 0, none⟩) (K + 1) cap2).ownBlock = some k) -> F k \/ (Value.slice vao m vcp).ownBlock = some k \/ w.heap.size <= k := by
    rintro k (⟨hk, _⟩ | hk | hk)
    . exact .inl hk
    . exact .inr (.inl hk)
    . simp [Value.ownBlock] at hk
      subst hk
      rcases hat2 with e | e
      . exact .inl (hfh _ e)
      . exact .inr (.inr e)
  have hv3 := hd3.vs K (by omega)
  rw [upd_same, upd_same, upd_same] at hv3
  have hw3 := hd3.wr
  generalize hFF : (fun k => (F k /\ (Value.slice hao K hcp).ownBlock ≠ some k) \/ (Value.slice vao m vcp).ownBlock = some k \/ (Value.slice (some ⟨g2, 0, none⟩) (K + 1) cap2).ownBlock = some k) = F3 at hd3
  have hF4 : ∀ k, F3 k -> F k \/ (Value.slice vao m vcp).ownBlock = some k \/ w.heap.size <= k := fun k hk => hF3 k (by rw [<- hFF] at hk; exact hk)
  clear hrow2 hgb2 hat2 hb2 hb1 hr1 hg1 hg3 c12 c26 f26 h63 hK1 hd2 hd1 hv1 hF3 hFF
  go_wp2
  clear f12 k12
  generalize hX : w2.setCell ⟨bb, 8, none⟩ (.slice (some ⟨g2, 0, none⟩) (K + 1) cap2) = X at *
  have k13 : X.cell? ⟨bb, 9, none⟩ = some (.slice wao K wcp) := hb3.cell 9
  have k13a := fun o => gb_cellN (World.grownBy_alloc X o none) k13
  have hbl := hb3.lt
  have hE0 : ∀ Y : World, Y.heap.size = X.heap.size -> (Y.alloc (.cells #[] 9)).ownsRow X.heap.size 9 1 (.slice (some ⟨X.heap.size, 0, none⟩) 0 0) 0 [] := fun Y hY => ⟨rfl, .inr ⟨X.heap.size, 0, #[], rfl, Nat.le_refl _, by rw [<- hY]; exact heap_alloc_new Y _, Nat.le_refl _, by unfold maxLen; omega, rfl, rfl⟩⟩
  have hXw := hK3.size
  have HV : Hid (X.ownsRow 0 9 1 (.slice vao m vcp) m xs) := hv3
  have HW : Hid (X.ownsRow 0 36 1 (.slice wao K wcp) K (vsL W K)) := hw3
  have HB : Hid (Box X 31 bb (bkA b0 b1 b2 b3 (.slice (some ⟨g2, 0, none⟩) (K + 1) cap2) (.slice wao K wcp) t2 t3 s0 s1 s2 (n + m + 1))) := hb3
  have HD : Hid _ := hd3
  have HK3 : Hid _ := hK3
  clear hd3 hv3 hw3 hb3 hX hK3
  go_region_law ((first | (refine step_copy TI (xs := xs) (n := m) (v := .slice vao m vcp) (g0 := X.heap.size) (by rfl) (.tmp 32) (.tmp 33) (by rfl) (by rfl) X.heap.size (hE0 _ (by rfl)) (World.ownsRow.alloc (show World.ownsRow _ 0 9 1 _ _ _ from HV.out) _) hoc (by rfl) hxl (by simp) ?_; intro gC cC w5 hown5 hgr5 hat5; have hg5 : X.grownBy w5 (some X.heap.size) := gb_trans (by first | exact gb_drew (gb_alloc (gb_refl _ _) _) | exact gb_alloc (gb_drew (gb_refl _ _)) _) hgr5; have b5 := HB.out.kept hg5 (some_ne2 (by omega)); have m13 : w5.cell? ⟨bb, 9, none⟩ = some (.slice wao K wcp) := b5.cell 9; have m13a := (fun o => gb_cellN (World.grownBy_alloc w5 o none) m13); have hwr5 := row_kept HW.out hg5 (fun j hj e => (by have := (row_ge HW.out hj).2; have := Option.some.inj e; omega))) | (refine step_push TO (w5 := w5) (by rfl) (.tmp 31) (.tmp 35) (by rfl) 0 (.slice wao K wcp) K _ (by rfl) [.slice (some ⟨gC, 0, none⟩) m cC] rfl (by simp [Value.oneCell']) (by rfl) hwr5 (by rfl) (by omega) (Nat.zero_le _) ?_; intro g7 c7 w7 hown7 hg7 hat7; have b7 := b5.kept hg7 (fun e => hbF (hfw _ e.symm)); have m7 : w7.cell? ⟨bb, 9, none⟩ = some (.slice wao K wcp) := b7.cell 9; have f7 : w7.frozen? ⟨bb, 9, none⟩ = false := b7.fz 9)))
  all_goals
    have h5s := hg5.size
    have hC := row_ge hown5 (j := gC) rfl
    have hd5 := HD.out.kept hg5 (fun k hk e => by have := HD.out.fl k hk; have := Option.some.inj e; omega)
    have hd7 := hd5.pushW (by omega) (v := .slice (some ⟨gC, 0, none⟩) m cC) (by rw [upd_same, upd_same]; exact row_base hown5 (Nat.zero_le _)) (fun g hg hk => by have := HD.out.fl g hk; simp [Value.ownBlock] at hg; omega) hown7 hg7 (fun g hg => by simp [Value.ownBlock] at hg; subst hg; exact hat7)
    have hgs : w7.grownBy (w7.setCell ⟨bb, 9, none⟩ (.slice (some ⟨g7, 0, none⟩) (K + 1) c7)) (some bb) := gb_setCell (gb_refl _ _) _
    have hpost : Kp (fun k => k = bb \/ F k) w (w7.setCell ⟨bb, 9, none⟩ (.slice (some ⟨g7, 0, none⟩) (K + 1) c7)) /\ ∃ q0 q1 F' V' W', Box (w7.setCell ⟨bb, 9, none⟩ (.slice (some ⟨g7, 0, none⟩) (K + 1) c7)) 31 bb (bkA b0 b1 b2 b3 q0 q1 t2 t3 s0 s1 s2 (n + m + 1)) /\ Kd (w7.setCell ⟨bb, 9, none⟩ (.slice (some ⟨g7, 0, none⟩) (K + 1) c7)) F' 36 9 1 q0 q1 (K + 1) (K + 1) V' W' (upd N K m) (upd D K xs) /\ ∀ k, F' k -> F k \/ (Value.slice vao m vcp).ownBlock = some k \/ w.heap.size <= k := by
      refine ⟨((HK3.out.step hg5 (fun j hj => by have := Option.some.inj hj; exact .inr (by omega))).step hg7 (fun j hj => .inl (.inr (hfw j hj)))).step hgs (fun j hj => .inl (.inl (Option.some.inj hj).symm)), .slice (some ⟨g2, 0, none⟩) (K + 1) cap2, .slice (some ⟨g7, 0, none⟩) (K + 1) c7, _, _, _, b7.set 9 _, hd7.kept hgs (fun k hk e => hd7.not b7 (by decide) (by decide) (by have := Option.some.inj e; subst this; exact hk)), ?_⟩
      rintro k (⟨hk, _⟩ | hk | hk)
      . exact hF4 k hk
      . simp [Value.ownBlock] at hk; exact .inr (.inr (by omega))
      . simp [Value.ownBlock] at hk
        subst hk
        rcases hat7 with e | e
        . exact .inl (hfw _ e)
        . exact .inr (.inr (by omega))
    have HP : Hid _ := hpost
    clear hpost hown5 hown7 hgr5 hg5 hg7 b5 b7 m13 m13a HV HW HB HD HK3 hat5 hat7 hwr5 hd5 hd7 hgs
    go_wp2
    go_end0
    exact ⟨rfl, HP.out⟩
end
end Go.Proofs.YtobegepebochkaaGreatDoor
