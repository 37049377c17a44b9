import Derived.Deep.RegionLaw
import Derived.Test.YtobegepebochkaaGreatDoorVMr
import Derived.Test.YtobegepebochkaaGreatDoorVPaw
set_option linter.unusedVariables false
set_option linter.unusedSimpArgs false
namespace Go.Proofs.YtobegepebochkaaGreatDoor
open Go.RowKit
section
variable {w : World} {bb : Nat} {b0 b1 b2 b3 t0 t1 t2 t3 s0 s1 s2 : Value} {n : Int} {F : Nat → Prop} {K : Nat} {V W : Nat → Value} {N : Nat → Nat} {D : Nat → List Value}
set_option maxRecDepth 100000 in
set_option maxHeartbeats 16000000 in
theorem keep_20C (h : Box w 31 bb (bkA b0 b1 b2 b3 t0 t1 t2 t3 s0 s1 s2 n)) (hd : KdC w F 38 5 1 b0 b1 K K V W N D) (hnb : 0 ≤ n ∧ n ≤ 200000) (hK : K < 10000000) {vao : Option Addr} {vcp m : Nat} {xs : List Value} (hv0 : oC w 0 5 1 (.slice vao m vcp) m xs) (hoc : ∀ u ∈ xs, u.oneCell' = true) (hxl : m ≤ 1000000) (hvF : ∀ g, (Value.slice vao m vcp).ownBlock = some g → ¬ F g) :
    Calls Tryz.prog 20 #[.pointer (some ⟨bb, 0, none⟩), .slice vao m vcp] w fun y w' => y = .returned (.tuple #[]) ∧ Kp (fun k => k = bb ∨ F k) w w' ∧ ∃ q0 q1 F' V' W', Box w' 31 bb (bkA q0 q1 b2 b3 t0 t1 t2 t3 s0 s1 s2 (n + m + 1)) ∧ KdC w' F' 38 5 1 q0 q1 (K + 1) (K + 1) V' W' (upd N K m) (upd D K xs) ∧ ∀ k, F' k → F k ∨ (Value.slice vao m vcp).ownBlock = some k ∨ w.heap.size ≤ k := by
  have h63 := full_65 h
  rw [decide_eq_false (show ¬ 200000 < n by omega)] at h63
  obtain ⟨tO, TO⟩ := ty_22
  obtain ⟨tI, TI⟩ := ty_38
  obtain ⟨hao, hcp, hdh, _, _, _, _⟩ := row_shapeC hd.hr
  subst hdh
  obtain ⟨wao, wcp, hdw, _, _, _, _⟩ := row_shapeC hd.wr
  subst hdw
  have c26 : w.cell? ⟨bb, 26, none⟩ = some (.int .i64 n) := h.cell 26
  have f26 := h.fz 26
  have hwn : IntKind.i64.wrap (n + m) = n + m := by rw [IntKind.wrap_i64]; omega
  have hwn2 : IntKind.i64.wrap (n + m + 1) = n + m + 1 := by rw [IntKind.wrap_i64]; omega
  have hbF : ¬ F bb := hd.not h (by decide) (by decide)
  have hg1 : w.grownBy (w.setCell ⟨bb, 26, none⟩ (.int .i64 (n + m + 1))) (some bb) := gb_setCell (gb_refl _ _) _
  have hb1 : Box (w.setCell ⟨bb, 26, none⟩ (.int .i64 (n + m + 1))) 31 bb (bkA (.slice hao K hcp) (.slice wao K wcp) b2 b3 t0 t1 t2 t3 s0 s1 s2 (n + m + 1)) := h.set 26 _
  have hbk : ∀ k, F k → some k ≠ some bb := fun k hk e => hbF (by have := Option.some.inj e; subst this; exact hk)
  have hd1 := hd.kept hg1 hbk
  have hv1 := row_keptC hv0 hg1 (fun k hk e => by obtain ⟨c, hc⟩ := row_blockC hv0 k hk; exact ne_of_type hc h (by decide) (Option.some.inj e))
  have hr1 := hd1.hr
  have c12 : (w.setCell ⟨bb, 26, none⟩ (.int .i64 (n + m + 1))).cell? ⟨bb, 0, none⟩ = some (.slice hao K hcp) := hb1.cell 0
  have hK1 : Kp (fun k => k = bb ∨ F k) w (w.setCell ⟨bb, 26, none⟩ (.int .i64 (n + m + 1))) := (Kp.refl _ w).step hg1 (fun j hj => by injection hj with hj; subst hj; exact .inl (.inl rfl))
  have hfl := hd.fl
  have hfh := hd.fh
  have hfw := hd.fw
  have hvlt : ∀ g, (Value.slice vao m vcp).ownBlock = some g → g < w.heap.size := fun g hg => (row_geC hv0 hg).2
  clear hd
  go_enter Tryz.func20, Tryz.ntmps20
  go_wp2_with (first | (go_at_call 65; go_must (refine h63.mono ?_); rintro y w1 ⟨rfl, hw1⟩; have hw2 := hw1.symm; subst hw2) | (at_builtin; go_must (refine pushBC TO rfl _ _ rfl 0 _ K _ (by rfl) hr1 [.slice vao m vcp] rfl (by simp [Value.oneCell']) (by rw [show (w.setCell ⟨bb, 26, none⟩ (.int .i64 (n + m + 1))).heap.size = w.heap.size by simp]; rfl) (by omega) (Nat.zero_le _) ?_)) | fail)
  intro g2 cap2 w2 hrow2 hgb2 hat2
  have hd2 := hd1.pushV hv1 hvF hxl hoc hrow2 hgb2 (fun g hg => by simp [Value.ownBlock] at hg; subst hg; exact hat2.imp id (fun e => by simpa using e))
  have hb2 := hb1.kept hgb2 (fun e => hbF (hfh _ e.symm))
  have f12 := hb2.fz 0
  have k12 : w2.cell? ⟨bb, 0, none⟩ = some (.slice hao K hcp) := hb2.cell 0
  have hg3 : w2.grownBy (w2.setCell ⟨bb, 0, none⟩ (.slice (some ⟨g2, 0, none⟩) (K + 1) cap2)) (some bb) := gb_setCell (gb_refl _ _) _
  have hb3 : Box (w2.setCell ⟨bb, 0, none⟩ (.slice (some ⟨g2, 0, none⟩) (K + 1) cap2)) 31 bb (bkA (.slice (some ⟨g2, 0, none⟩) (K + 1) cap2) (.slice wao K wcp) b2 b3 t0 t1 t2 t3 s0 s1 s2 (n + m + 1)) := hb2.set 0 _
  have hs12 : w.heap.size ≤ w2.heap.size := Nat.le_trans hg1.size hgb2.size
  have hd3 := hd2.kept hg3 (fun k hk e => hd2.not hb2 (by decide) (by decide) (by have := Option.some.inj e; subst this; exact hk))
  have hK3 : Kp (fun k => k = bb ∨ F k) w (w2.setCell ⟨bb, 0, none⟩ (.slice (some ⟨g2, 0, none⟩) (K + 1) cap2)) := (hK1.step hgb2 (fun j hj => .inl (.inr (hfh j hj)))).step hg3 (fun j hj => by injection hj with hj; subst hj; exact .inl (.inl rfl))
  have hF3 : ∀ k, ((F k ∧ (Value.slice hao K hcp).ownBlock ≠ some k) ∨ (Value.slice vao m vcp).ownBlock = some k ∨ (Value.slice (some ⟨g2, 0, none⟩) (K + 1) cap2).ownBlock = some k) → F k ∨ (Value.slice vao m vcp).ownBlock = some k ∨ w.heap.size ≤ k := by
    rintro k (⟨hk, _⟩ | hk | hk)
    · exact .inl hk
    · exact .inr (.inl hk)
    · simp [Value.ownBlock] at hk
      subst hk
      rcases hat2 with e | e
      · exact .inl (hfh _ e)
      · exact .inr (.inr e)
  have hv3 := hd3.vs K (by omega)
  rw [upd_same, upd_same, upd_same] at hv3
  have hw3 := hd3.wr
  generalize hFF : (fun k => (F k ∧ (Value.slice hao K hcp).ownBlock ≠ some k) ∨ (Value.slice vao m vcp).ownBlock = some k ∨ (Value.slice (some ⟨g2, 0, none⟩) (K + 1) cap2).ownBlock = some k) = F3 at hd3
  have hF4 : ∀ k, F3 k → F k ∨ (Value.slice vao m vcp).ownBlock = some k ∨ w.heap.size ≤ k := fun k hk => hF3 k (by rw [← hFF] at hk; exact hk)
  clear hrow2 hgb2 hat2 hb2 hb1 hr1 hg1 hg3 c12 c26 f26 h63 hK1 hd2 hd1 hv1 hF3 hFF
  go_wp2
  clear f12 k12
  generalize hX : w2.setCell ⟨bb, 0, none⟩ (.slice (some ⟨g2, 0, none⟩) (K + 1) cap2) = X at *
  have k13 : X.cell? ⟨bb, 1, none⟩ = some (.slice wao K wcp) := hb3.cell 1
  have k13a := fun o => gb_cellN (World.grownBy_alloc X o none) k13
  have hbl := hb3.lt
  have hE0 : ∀ Y : World, Y.heap.size = X.heap.size → (Y.alloc (.cells #[] 5)).ownsRow X.heap.size 5 1 (.slice (some ⟨X.heap.size, 0, none⟩) 0 0) 0 [] := fun Y hY => ⟨rfl, .inr ⟨X.heap.size, 0, #[], rfl, Nat.le_refl _, by rw [← hY]; exact heap_alloc_new Y _, Nat.le_refl _, by unfold maxLen; omega, rfl, rfl⟩⟩
  have hXw := hK3.size
  have HV : Hid (oC X 0 5 1 (.slice vao m vcp) m xs) := hv3
  have HW : Hid (oC X 0 38 1 (.slice wao K wcp) K (vsL W K)) := hw3
  have HB : Hid (Box X 31 bb (bkA (.slice (some ⟨g2, 0, none⟩) (K + 1) cap2) (.slice wao K wcp) b2 b3 t0 t1 t2 t3 s0 s1 s2 (n + m + 1))) := hb3
  have HD : Hid _ := hd3
  have HK3 : Hid _ := hK3
  clear hd3 hv3 hw3 hb3 hX hK3
  go_region_law ((first | (refine step_copyC TI (xs := xs) (n := m) (v := .slice vao m vcp) (g0 := X.heap.size) (by rfl) (.tmp 32) (.tmp 33) (by rfl) (by rfl) X.heap.size (hE0 _ (by rfl)) (oC_alloc (show oC _ 0 5 1 _ _ _ from HV.out) _) hoc (by rfl) hxl (by simp) ?_; intro gC cC w5 hown5 hgr5 hat5; have hg5 : X.grownBy w5 (some X.heap.size) := gb_trans (by first | exact gb_drew (gb_alloc (gb_refl _ _) _) | exact gb_alloc (gb_drew (gb_refl _ _)) _) hgr5; have b5 := HB.out.kept hg5 (some_ne2 (by omega)); have m13 : w5.cell? ⟨bb, 1, none⟩ = some (.slice wao K wcp) := b5.cell 1; have m13a := (fun o => gb_cellN (World.grownBy_alloc w5 o none) m13); have hwr5 := row_keptC HW.out hg5 (fun j hj e => (by have := (row_geC HW.out hj).2; have := Option.some.inj e; omega))) | (refine step_pushC TO (w5 := w5) (by rfl) (.tmp 31) (.tmp 35) (by rfl) 0 (.slice wao K wcp) K _ (by rfl) [.slice (some ⟨gC, 0, none⟩) m cC] rfl (by simp [Value.oneCell']) (by rfl) hwr5 (by rfl) (by omega) (Nat.zero_le _) ?_; intro g7 c7 w7 hown7 hg7 hat7; have b7 := b5.kept hg7 (fun e => hbF (hfw _ e.symm)); have m7 : w7.cell? ⟨bb, 1, none⟩ = some (.slice wao K wcp) := b7.cell 1; have f7 : w7.frozen? ⟨bb, 1, none⟩ = false := b7.fz 1)))
  all_goals
    have h5s := hg5.size
    have hC := row_geC hown5 (j := gC) rfl
    have hd5 := HD.out.kept hg5 (fun k hk e => by have := HD.out.fl k hk; have := Option.some.inj e; omega)
    have hd7 := hd5.pushW (by omega) (v := .slice (some ⟨gC, 0, none⟩) m cC) (by rw [upd_same, upd_same]; exact row_baseC hown5 (Nat.zero_le _)) (fun g hg hk => by have := HD.out.fl g hk; simp [Value.ownBlock] at hg; omega) hown7 hg7 (fun g hg => by simp [Value.ownBlock] at hg; subst hg; exact hat7)
    have hgs : w7.grownBy (w7.setCell ⟨bb, 1, none⟩ (.slice (some ⟨g7, 0, none⟩) (K + 1) c7)) (some bb) := gb_setCell (gb_refl _ _) _
    have hpost : Kp (fun k => k = bb ∨ F k) w (w7.setCell ⟨bb, 1, none⟩ (.slice (some ⟨g7, 0, none⟩) (K + 1) c7)) ∧ ∃ q0 q1 F' V' W', Box (w7.setCell ⟨bb, 1, none⟩ (.slice (some ⟨g7, 0, none⟩) (K + 1) c7)) 31 bb (bkA q0 q1 b2 b3 t0 t1 t2 t3 s0 s1 s2 (n + m + 1)) ∧ KdC (w7.setCell ⟨bb, 1, none⟩ (.slice (some ⟨g7, 0, none⟩) (K + 1) c7)) F' 38 5 1 q0 q1 (K + 1) (K + 1) V' W' (upd N K m) (upd D K xs) ∧ ∀ k, F' k → F k ∨ (Value.slice vao m vcp).ownBlock = some k ∨ w.heap.size ≤ k := by
      refine ⟨((HK3.out.step hg5 (fun j hj => by have := Option.some.inj hj; exact .inr (by omega))).step hg7 (fun j hj => .inl (.inr (hfw j hj)))).step hgs (fun j hj => .inl (.inl (Option.some.inj hj).symm)), .slice (some ⟨g2, 0, none⟩) (K + 1) cap2, .slice (some ⟨g7, 0, none⟩) (K + 1) c7, _, _, _, b7.set 1 _, hd7.kept hgs (fun k hk e => hd7.not b7 (by decide) (by decide) (by have := Option.some.inj e; subst this; exact hk)), ?_⟩
      rintro k (⟨hk, _⟩ | hk | hk)
      · exact hF4 k hk
      · simp [Value.ownBlock] at hk; exact .inr (.inr (by omega))
      · simp [Value.ownBlock] at hk
        subst hk
        rcases hat7 with e | e
        · exact .inl (hfw _ e)
        · exact .inr (.inr (by omega))
    have HP : Hid _ := hpost
    clear hpost hown5 hown7 hgr5 hg5 hg7 b5 b7 m13 m13a HV HW HB HD HK3 hat5 hat7 hwr5 hd5 hd7 hgs
    go_wp2
    go_end0
    exact ⟨rfl, HP.out⟩
end
set_option maxRecDepth 100000 in
set_option maxHeartbeats 8000000 in
theorem stands_66C {w : World} {bb : Nat} {b0 b1 b2 b3 t0 t1 t2 t3 s0 s1 s2 : Value} {n : Int} {Fb Ft : Nat → Prop} {Kb Kt : Nat} {Vb Wb Vt Wt : Nat → Value} {Nb Nt : Nat → Nat} {Db Dt : Nat → List Value} (h : Box w 31 bb (bkA b0 b1 b2 b3 t0 t1 t2 t3 s0 s1 s2 n)) (hb : KdC w Fb 38 5 1 b0 b1 Kb Kb Vb Wb Nb Db) (ht : Kd w Ft 36 9 1 t0 t1 Kt Kt Vt Wt Nt Dt)
    (hbl : ∀ i, i < Kb → ∃ l : Bs, Db i = l.map b8) (htl : ∀ i, i < Kt → ∃ ws : List Bs, Dt i = ws.map sv) (hKb : Kb < 10000000) (hKt : Kt < 10000000) :
    Calls Tryz.prog 66 #[.pointer (some ⟨bb, 0, none⟩)] w fun y w' => y = .returned (.bool true) ∧ w.grownBy w' none := by
  obtain ⟨hao, hcp, hdh, _, _, _, hposh⟩ := row_shapeC hb.hr
  subst hdh
  obtain ⟨wao, wcp, hdw, _, _, _, hposw⟩ := row_shapeC hb.wr
  subst hdw
  obtain ⟨tao, tcp, hdt, _, _, _, hpost⟩ := row_shape ht.hr
  subst hdt
  obtain ⟨uao, ucp, hdu, _, _, _, hposu⟩ := row_shape ht.wr
  subst hdu
  go_enter Tryz.func66, Tryz.ntmps66
  go_wp2
  go_loopw [3] (fun v wy => ∃ i : Nat, i ≤ Kb ∧ v = .int .i64 i ∧ World.grownBy w wy none) (fun v _ => Kb - (intOf v).toNat)
  case atStart => exact ⟨0, by omega, rfl, gb_refl _ _⟩
  case round =>
    obtain ⟨i, hi, rfl, hg⟩ := hrel
    have hz := h.kept hg (by simp)
    have c0 : wr.cell? ⟨bb, 0, none⟩ = some (.slice hao Kb hcp) := hz.cell 0
    have c1 : wr.cell? ⟨bb, 1, none⟩ = some (.slice wao Kb wcp) := hz.cell 1
    by_cases hiK : i < Kb
    · obtain ⟨gh, rfl⟩ := hposh (by omega)
      obtain ⟨gw, rfl⟩ := hposw (by omega)
      have hbz := hb.kept0 hg
      obtain ⟨l, hl⟩ := hbl i hiK
      have hv := hbz.vs i hiK
      have hw := hbz.ws i hiK
      rw [hl] at hv hw
      have hlN : l.length = Nb i := by have := hv.1; simpa using this
      rw [← hlN] at hv hw
      have k1 := ck_oC (X := fun _ => False) hv (fun _ _ h => h)
      have k2 := ck_oC (X := fun _ => False) hw (fun _ _ h => h)
      have d1 : wr.cell? ⟨gh, i, none⟩ = some (Vb i) := row_cellC hbz.hr i _ (vsL_get _ hiK)
      have d2 : wr.cell? ⟨gw, i, none⟩ = some (Wb i) := row_cellC hbz.wr i _ (vsL_get _ hiK)
      obtain ⟨a1, n1, v1, hV, rfl⟩ := k1.slice
      obtain ⟨a2, n2, v2, hW, rfl⟩ := k2.slice
      rw [hV] at d1 k1
      rw [hW] at d2 k2
      have q1 := fun q => Ck.conv (w := wr.drewN q) (show Ck (wr.drewN q) (fun _ => False) _ l from k1)
      have q2 := fun q => Ck.conv (w := wr.drewN q) (show Ck (wr.drewN q) (fun _ => False) _ l from k2)
      have hib : (i : Int) < Kb := by omega
      clear h hz hb ht k1 k2 hV hW hposh hposw hbz hv hw hpost hposu hbl htl hlN hl
      go_wp2
      go_quiet (fail)
      go_wp2
      exact ⟨⟨i + 1, by omega, by go_num, gb_drewN hg _⟩, by simp [intOf]; omega⟩
    · obtain rfl : i = Kb := by omega
      have c4 : wr.cell? ⟨bb, 4, none⟩ = some (.slice none 0 0) := hz.cell 4
      have HG : Hid (w.grownBy wr none) := hg
      clear hposh hposw hb hbl hg
      go_wp2
      go_loopw [4] (fun v wq => v = .int .i64 0 ∧ wq = wr) (fun _ _ => 0)
      case atStart => exact ⟨rfl, rfl⟩
      case round =>
        obtain ⟨rfl, hwq⟩ := hrel
        subst hwq
        go_wp2
        clear c0 c1 c4
        go_loopw [5] (fun v wy => ∃ i : Nat, i ≤ Kt ∧ v = .int .i64 i ∧ World.grownBy w wy none) (fun v _ => Kt - (intOf v).toNat)
        case atStart => exact ⟨0, by omega, rfl, HG.out⟩
        case round =>
          obtain ⟨i, hi, rfl, hg⟩ := hrel
          clear hz HG
          have hz := h.kept hg (by simp)
          have c8 : wr.cell? ⟨bb, 8, none⟩ = some (.slice tao Kt tcp) := hz.cell 8
          have c9 : wr.cell? ⟨bb, 9, none⟩ = some (.slice uao Kt ucp) := hz.cell 9
          have c12 : wr.cell? ⟨bb, 12, none⟩ = some (.slice none 0 0) := hz.cell 12
          have c16 : wr.cell? ⟨bb, 16, none⟩ = some (.slice none 0 0) := hz.cell 16
          by_cases hiK : i < Kt
          · obtain ⟨gh, rfl⟩ := hpost (by omega)
            obtain ⟨gw, rfl⟩ := hposu (by omega)
            have htz := ht.kept0 hg
            obtain ⟨ws, hws⟩ := htl i hiK
            have hv := htz.vs i hiK
            have hw := htz.ws i hiK
            rw [hws] at hv hw
            have hlN : ws.length = Nt i := by have := hv.1; simpa using this
            obtain ⟨a1, k1, hV, hH1⟩ := HsT.of_row hv
            obtain ⟨a2, k2, hW, hH2⟩ := HsT.of_row hw
            have d1 : wr.cell? ⟨gh, i, none⟩ = some (.slice a1 ws.length k1) := by rw [← hV]; exact row_cell htz.hr i _ (vsL_get _ hiK)
            have d2 : wr.cell? ⟨gw, i, none⟩ = some (.slice a2 ws.length k2) := by rw [← hW]; exact row_cell htz.wr i _ (vsL_get _ hiK)
            have hdl := htz.dl i hiK
            have h35 := fun nq => texts_82q (w := wr.drewN nq) (show HsT (wr.drewN nq) a1 ws from hH1) (show HsT (wr.drewN nq) a2 ws from hH2) k1 k2 (by omega)
            have hib : (i : Int) < Kt := by omega
            clear h hz hH1 hH2 hV hW hpost hposu htz hv hw ht htl hlN
            generalize ws.length = dn at *
            go_wp2
            go_quiet ((first | (go_at_call 82; with_reducible exact Calls.quiet_of (h35 _))))
            go_wp2
            exact ⟨⟨i + 1, by omega, by go_num, gb_drewN hg _⟩, by simp [intOf]; omega⟩
          · obtain rfl : i = Kt := by omega
            clear h hz hpost hposu ht htl
            go_wp2
            go_loopw [6] (fun v wz => v = .int .i64 0 ∧ wz = wr) (fun _ _ => 0)
            case atStart => exact ⟨rfl, rfl⟩
            case round =>
              obtain ⟨rfl, hwz⟩ := hrel
              subst hwz
              go_wp2
              go_loopw [7] (fun v wx => v = .int .i64 0 ∧ wx = wr) (fun _ _ => 0)
              case atStart => exact ⟨rfl, rfl⟩
              case round =>
                obtain ⟨rfl, hwx⟩ := hrel
                subst hwx
                go_wp2
                go_ret
                exact ⟨rfl, hg⟩
end Go.Proofs.YtobegepebochkaaGreatDoor
