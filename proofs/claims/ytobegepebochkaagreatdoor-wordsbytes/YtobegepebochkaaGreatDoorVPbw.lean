import Derived.Test.YtobegepebochkaaGreatDoorVPbv
import Derived.Test.YtobegepebochkaaGreatDoorVPbr
import Derived.Test.YtobegepebochkaaGreatDoorVPaq
set_option linter.unusedVariables false
set_option linter.unusedSimpArgs false
namespace Go.Proofs.YtobegepebochkaaGreatDoor
open Go.RowKit Go.Maps
abbrev mkS : Bs := [109, 97, 114, 107]
abbrev tx40 : List Bs := List.replicate 40 mkS
def LtxG (y0 y1 : Value) (w : World) (lb B g c : Nat) (D : List Bs) : Prop :=
  ∃ gl cl gw cw u cu, Box w 68 lb #[y0, y1, .slice (some ⟨gl, 0, none⟩) 1 cl, .slice (some ⟨gw, 0, none⟩) 1 cw] ∧ w.ownsRow B 36 1 (.slice (some ⟨gl, 0, none⟩) 1 cl) 1 [.slice (some ⟨g, 0, none⟩) D.length c] ∧ w.ownsRow B 36 1 (.slice (some ⟨gw, 0, none⟩) 1 cw) 1 [.slice (some ⟨u, 0, none⟩) D.length cu] ∧ w.ownsRow B 9 1 (.slice (some ⟨g, 0, none⟩) D.length c) D.length (D.map sv) ∧ w.ownsRow B 9 1 (.slice (some ⟨u, 0, none⟩) D.length cu) D.length (D.map sv) ∧ gl ≠ gw ∧ g ≠ u
theorem ws_slice {w : World} {v : Value} {l : List Bs} (h : Ws w v l) : ∃ a n c, v = .slice a n c ∧ n = l.length := by
  rcases h with ⟨rfl, a, c, rfl⟩ | ⟨g, o, c, rfl, -⟩
  · exact ⟨_, _, _, rfl, rfl⟩
  · exact ⟨_, _, _, rfl, rfl⟩
theorem row_lift {w : World} {B : Nat} {e : TypeId} {s : Nat} {v : Value} {n : Nat} {xs : List Value} (h : w.ownsRow 0 e s v n xs) (hg : ∀ j, v.ownBlock = some j → B ≤ j) : w.ownsRow B e s v n xs := by
  refine ⟨h.1, ?_⟩
  rcases h.2 with h | ⟨g, cap, cur, rfl, h2, h3⟩
  · exact .inl h
  · exact .inr ⟨g, cap, cur, rfl, hg g rfl, h3⟩
section
variable {sl el : TypeId} {ti : TypeInfo} {z : Value} {sz bs : Nat}
variable {w : World} {ops : Array Oper} {rest : List Oper} {o : Oper} {a : Act} {Q : Exit → Act → World → Prop}
theorem moreX (hgd : o.guard = none) (s x : Operand) (ho : o.op = .call { callee := .builtin .append, args := #[s, x], argTypes := #[36, 36] })
    (B : Nat) (v : Value) (n : Nat) (xs : List Value) (hs : a.eval s = v) (hown : w.ownsRow B 9 1 v n xs) (xv : Value) (l : List Bs) (hx : a.eval x = xv) (hc : Ws w xv l) (hn : n + l.length ≤ 1000000000) (hB : B ≤ w.heap.size)
    (h : ∀ v' w', w'.ownsRow B 9 1 v' (n + l.length) (xs ++ l.map sv) → w.grownBy w' v.ownBlock → wpList Tryz.prog ops Q rest (a.put o.dst v') w') : wpList Tryz.prog ops Q (o :: rest) a w := by
  obtain ⟨ti, T⟩ := ty_36
  refine wpList_plain hgd fun K hK => ?_
  have emp : l = [] → (∃ a c, xv = .slice a 0 c) → o.wp Tryz.prog a w K Q := by
    rintro rfl hsl
    have hrun := run_psh0 T w o.type B v n xs hown xv hsl
    unfold Oper.wp
    simp [execOp, ho, resolve, invoke, builtin, hs, hx, hrun, Result.andThen]
    exact hK _ _ (h v w (by simpa using hown) (gb_refl _ _))
  rcases hc with ⟨h0, h1⟩ | ⟨g, of, c, rfl, hlc, hg, hcell⟩
  · exact emp h0 h1
  · by_cases h0 : l = []
    · exact emp h0 ⟨_, _, by rw [h0]; rfl⟩
    · obtain ⟨v', w', hr, a1, a2⟩ := run_psh T w o.type v n xs (row_base hown (Nat.zero_le _)) ⟨g, of, none⟩ l.length c (l.map sv) (by simp) (fun j u hj => by
        rw [List.getElem?_map, Option.map_eq_some_iff] at hj
        obtain ⟨y, hy, rfl⟩ := hj
        rw [Addr.add_mid]
        exact hcell j y hy) (fun u hu => by
        obtain ⟨y, _, rfl⟩ := List.mem_map.1 hu
        rfl) (List.length_pos_iff.2 h0) hn
      unfold Oper.wp
      simp [execOp, ho, resolve, invoke, builtin, hs, hx, hr, Result.andThen]
      refine hK _ _ (h v' w' (row_lift a1 (fun j hj => ?_)) a2.gb)
      rcases a2.at' hj with e | e
      · exact (row_ge hown e).1
      · omega
theorem step_copyW {K : Act → World → Prop} {D : Prop} {xs : List Value} {n : Nat} {v : Value} {g0 : Nat} (T : Ty sl el ti z sz bs) (hgd : o.guard = none) (s x : Operand)
    (ho : o.op = .call { callee := .builtin .append, args := #[s, x], argTypes := #[sl, sl] }) (hs : a.eval s = .slice (some ⟨g0, 0, none⟩) 0 0) (B : Nat) (hown0 : w.ownsRow B el sz (.slice (some ⟨g0, 0, none⟩) 0 0) 0 []) (hrow : w.ownsRow 0 el sz v n xs) (h1c : ∀ u ∈ xs, u.oneCell' = true) (hx : a.eval x = v) (hl : n ≤ 100000000) (hB : B ≤ w.heap.size)
    (h : ∀ g c w', w'.ownsRow B el sz (.slice (some ⟨g, 0, none⟩) n c) n xs → w.grownBy w' (some g0) → (g0 = g ∨ g = w.heap.size) → K (a.put o.dst (.slice (some ⟨g, 0, none⟩) n c)) w') :
    if Region.wanted o (yielded ops a.tmps) = true then Oper.wp Tryz.prog o a w K Q else D := by
  by_cases h0 : n = 0
  · subst h0
    have hxs : xs = [] := List.length_eq_zero_iff.1 (by rw [hrow.1]; omega)
    subst hxs
    have hw : Region.wanted o (yielded ops a.tmps) = true := by simp [Region.wanted, hgd]
    rw [if_pos hw]
    obtain ⟨ao, cp, hdv, _⟩ := row_shape hrow
    have hrun := run_psh0 T w o.type B _ 0 [] hown0 v ⟨ao, cp, hdv⟩
    unfold Oper.wp
    simp [execOp, ho, resolve, invoke, builtin, hs, hx, hrun, Result.andThen]
    exact h g0 0 _ hown0 (gb_refl _ _) (.inl rfl)
  · obtain ⟨ao, cp, hdv, _, _, _, hpos⟩ := row_shape hrow
    obtain ⟨g, rfl⟩ := hpos (by omega)
    subst hdv
    refine step_append_lies _ hgd s x sl ho B el ti _ sz bs T.u T.i T.z T.s T.b T.zs T.pos (.slice (some ⟨g0, 0, none⟩) 0 0) 0 [] hs hown0 ⟨g, 0, none⟩ n cp xs hx hrow.1 (fun j u hj => ?_) h1c (by omega) (by unfold maxLen; omega) (mul_bd (by omega) T.le) hB w.heap.size rfl ?_
    · rw [Addr.add_mid, Nat.zero_add]; exact row_cell hrow j u hj
    · intro g2 cap2 w' h1 h2 h3 _
      have h4 := h g2 cap2 w' (by simpa using h1) (by simpa [Value.ownBlock] using h2) (h3.imp (fun e => by simpa [Value.ownBlock] using e) id)
      simpa using h4
end
set_option maxRecDepth 100000 in
set_option maxHeartbeats 16000000 in
theorem texts_79 {y0 y1 : Value} {w : World} {lb : Nat} (hb : Box w 68 lb #[y0, y1, .slice none 0 0, .slice none 0 0]) {v : Value} {l : List Bs} (hv : Ws w v l) (hl : l.length ≤ 10000000) :
    Calls Tryz.prog 79 #[.pointer (some ⟨lb, 0, none⟩), v] w fun e w' => ∃ g c, e = .returned (.slice (some ⟨g, 0, none⟩) l.length c) ∧ LtxG y0 y1 w' lb w.heap.size g c (l ++ tx40) ∧ w.grownBy w' (some lb) := by
  obtain ⟨tO, TO⟩ := ty_25
  obtain ⟨tI, TI⟩ := ty_36
  have hlb := hb.lt
  obtain ⟨va, vn, vc, rfl, rfl⟩ := ws_slice hv
  have g0 := gb_alloc (gb_refl w none) (.cells #[] 9)
  have hE0 : (w.alloc (.cells #[] 9)).ownsRow w.heap.size 9 1 (.slice (some ⟨w.heap.size, 0, none⟩) 0 0) 0 [] := ⟨rfl, .inr ⟨w.heap.size, 0, #[], rfl, Nat.le_refl _, heap_alloc_new w _, Nat.le_refl _, by unfold maxLen; omega, rfl, rfl⟩⟩
  have hv2 := hv.kept0 g0
  go_enter Tryz.func79, Tryz.ntmps79
  go_wp2_with (first
    | (at_builtin; (refine moreZ TI rfl rfl rfl _ _ rfl w.heap.size _ l.length _ (by rfl) h1 40 (by rfl) (by omega) (by omega) (by omega) s1 ?_); intro g c w2 h2 gg2 at2)
    | (at_builtin; go_must (refine moreX rfl _ _ rfl w.heap.size _ 0 [] (by rfl) hE0 _ l (by rfl) hv2 (by omega) (by simp) ?_); intro v1 w1 h1z gg1; (have k1 : w.grownBy w1 none := gb_mine g0 gg1 (by simp [Value.ownBlock])); (have s1 := k1.size); (have h1 : w1.ownsRow w.heap.size 9 1 v1 l.length (l.map sv) := by simpa using h1z)))
  have k2 : w.grownBy w2 none := gb_far k1 gg2 (fun j hj => (row_ge h1 hj).1) (Nat.le_refl _)
  have hcb : l.length + 40 ≤ c ∧ c ≤ 9223372036854775807 := by
    obtain ⟨a0, c0, q0, -, q1, q2, -⟩ := row_shape h2
    cases q0
    unfold maxLen at q2
    omega
  have hrz : (l.map sv ++ List.replicate 40 (Value.string ⟨#[]⟩)) = (l ++ List.replicate 0 mkS ++ List.replicate 40 []).map sv := by simp
  rw [hrz] at h2
  obtain ⟨n, hn⟩ : ∃ n, l.length = n := ⟨_, rfl⟩
  rw [hn] at h2 hcb hl ⊢
  have HN : Hid (l.length = n) := hn
  clear h1 h1z gg1 gg2 at2 k1 s1 hE0 g0 hv2 hv hrz hn
  go_loopw [6] (fun x wr => ∃ k : Nat, k ≤ 40 ∧ x = .int .i64 ((n + k : Nat) : Int) ∧ wr.ownsRow w.heap.size 9 1 (.slice (some ⟨g, 0, none⟩) (n + 40) c) (n + 40) ((l ++ List.replicate k mkS ++ List.replicate (40 - k) []).map sv) ∧ w.grownBy wr none) (fun x _ => n + 40 - (intOf x).toNat)
  case atStart => exact ⟨0, by omega, rfl, h2, k2⟩
  case round =>
    clear h2 k2
    obtain ⟨k, hk, rfl, hown, hF⟩ := hrel
    have hgb := (row_ge hown (j := g) rfl)
    by_cases hlt : k < 40
    · obtain ⟨j, hj⟩ : ∃ j, n + k = j := ⟨_, rfl⟩
      rw [hj]
      have d1 : (j : Int) < ((n + 40 : Nat) : Int) := by omega
      have hfz := World.ownsRow.frozenAt hown j
      have hcell : wr.cell? ⟨g, j, none⟩ = some (sv []) := row_cell hown j _ (by
        rw [List.getElem?_map, List.getElem?_append_right (by simp [HN.out]; omega), List.getElem?_replicate, if_pos (by simp [HN.out]; omega)]
        rfl)
      have hset := row_set hown j (sv mkS)
      have HO : Hid ((wr.setCell ⟨g, j, none⟩ (sv mkS)).ownsRow w.heap.size 9 1 (.slice (some ⟨g, 0, none⟩) (n + 40) c) (n + 40) ((l ++ List.replicate (k + 1) mkS ++ List.replicate (40 - (k + 1)) []).map sv)) := by
        show World.ownsRow _ _ _ _ _ _ _
        have e : ((l ++ List.replicate k mkS ++ List.replicate (40 - k) ([] : Bs)).map sv).set j (sv mkS) = (l ++ List.replicate (k + 1) mkS ++ List.replicate (40 - (k + 1)) []).map sv := by
          rw [← List.map_set]
          congr 1
          rw [List.set_append_right _ _ (by simp [HN.out]; omega)]
          have e1 : j - (l ++ List.replicate k mkS).length = 0 := by simp [HN.out]; omega
          rw [e1]
          obtain ⟨z, hz⟩ : ∃ z, 40 - k = z + 1 := ⟨39 - k, by omega⟩
          rw [hz, List.replicate_succ, List.set_cons_zero, List.replicate_succ', show 40 - (k + 1) = z by omega]
          simp
        rw [← e]
        exact hset
      have HF : Hid (w.grownBy (wr.setCell ⟨g, j, none⟩ (sv mkS)) none) := gb_mine hF (gb_setCell (gb_refl _ _) _) (by omega)
      clear hown hset hF
      go_wp2_with fail
      go_roundw
      case rel => exact ⟨k + 1, by omega, by go_num, HO.out, HF.out⟩
      case measure => simp [intOf]; omega
    · obtain rfl : k = 40 := by omega
      have hD : (l ++ List.replicate 40 mkS ++ List.replicate (40 - 40) ([] : Bs)) = l ++ tx40 := List.append_nil _
      rw [hD] at hown
      have hbR := hb.kept hF (by simp)
      have c0 : wr.cell? ⟨lb, 2, none⟩ = some (.slice none 0 0) := hbR.cell 2
      have c0a := fun o => gb_cellN (World.grownBy_alloc wr o none) c0
      have hsz := hF.size
      have dn : ¬ (((n + 40 : Nat) : Int) < ((n + 40 : Nat) : Int)) := by omega
      clear hlt hk hD
      go_upto_region 7 with (at_builtin; go_must (refine pushB TO rfl _ _ rfl w.heap.size _ 0 [] (by rfl) (World.ownsRow_nil _ _ _ _) [.slice (some ⟨g, 0, none⟩) (n + 40) c] rfl (by simp [Value.oneCell']) (by rfl) (by omega) hsz ?_); intro gl cl w3 h3 gg3 at3; (have g3 : wr.grownBy w3 none := gg3); (have b3 := hbR.kept g3 (by simp)); (have m0 : w3.cell? ⟨lb, 2, none⟩ = some (.slice none 0 0) := b3.cell 2); (have f0 := b3.fz 2))
      have hb4 : Box (w3.setCell ⟨lb, 2, none⟩ (.slice (some ⟨gl, 0, none⟩) (0 + 1) cl)) 68 lb #[y0, y1, .slice (some ⟨gl, 0, none⟩) 1 cl, .slice none 0 0] := b3.set 2 _
      have gs4 : w3.grownBy (w3.setCell ⟨lb, 2, none⟩ (.slice (some ⟨gl, 0, none⟩) (0 + 1) cl)) (some lb) := gb_setCell (gb_refl _ _) _
      have hr4 := row_kept (row_kept hown g3 (by simp)) gs4 (fun k hk e => row_box (row_kept hown g3 (by simp)) b3 (by decide) k hk e)
      have hl4 := row_kept h3 gs4 (fun k hk e => row_box h3 b3 (by decide) k hk e)
      have gw4 : w.grownBy (w3.setCell ⟨lb, 2, none⟩ (.slice (some ⟨gl, 0, none⟩) (0 + 1) cl)) (some lb) := gb_trans (gb_none _ (gb_trans hF g3)) gs4
      clear m0 f0 gs4 b3 g3 gg3 h3 hown hF hbR c0 c0a at3
      generalize hX : w3.setCell ⟨lb, 2, none⟩ (.slice (some ⟨gl, 0, none⟩) (0 + 1) cl) = X at *
      have k1 : X.cell? ⟨lb, 3, none⟩ = some (.slice none 0 0) := hb4.cell 3
      have k1a := fun o => gb_cellN (World.grownBy_alloc X o none) k1
      have hbl := hb4.lt
      have hE0 : ∀ Y : World, Y.heap.size = X.heap.size → (Y.alloc (.cells #[] 9)).ownsRow X.heap.size 9 1 (.slice (some ⟨X.heap.size, 0, none⟩) 0 0) 0 [] := fun Y hY => ⟨rfl, .inr ⟨X.heap.size, 0, #[], rfl, Nat.le_refl _, by rw [← hY]; exact heap_alloc_new Y _, Nat.le_refl _, by unfold maxLen; omega, rfl, rfl⟩⟩
      have HV : Hid (X.ownsRow w.heap.size 9 1 (.slice (some ⟨g, 0, none⟩) (n + 40) c) (n + 40) ((l ++ tx40).map sv)) := hr4
      have HW : Hid (X.ownsRow w.heap.size 36 1 (.slice (some ⟨gl, 0, none⟩) (0 + 1) cl) (0 + 1) ([] ++ [.slice (some ⟨g, 0, none⟩) (n + 40) c])) := hl4
      have HB : Hid (Box X 68 lb #[y0, y1, .slice (some ⟨gl, 0, none⟩) 1 cl, .slice none 0 0]) := hb4
      have HG : Hid (w.grownBy X (some lb)) := gw4
      have hXs := gw4.size
      have hoc : ∀ u ∈ (l ++ tx40).map sv, u.oneCell' = true := fun u hu => by
        obtain ⟨y, _, rfl⟩ := List.mem_map.1 hu
        rfl
      clear hr4 hl4 hb4 gw4 hX
      go_region_law ((first | (refine step_copyW TI (xs := (l ++ tx40).map sv) (n := n + 40) (v := .slice (some ⟨g, 0, none⟩) (n + 40) c) (g0 := X.heap.size) (by rfl) (.tmp 37) (.tmp 38) (by rfl) (by rfl) X.heap.size (hE0 _ (by rfl)) (World.ownsRow.alloc (show World.ownsRow _ 0 9 1 _ _ _ from row_base HV.out (Nat.zero_le _)) _) hoc (by rfl) (by omega) (by simp) ?_; intro gC cC w5 hown5 hgr5 hat5; have hg5 : X.grownBy w5 (some X.heap.size) := gb_trans (by first | exact gb_drew (gb_alloc (gb_refl _ _) _) | exact gb_alloc (gb_drew (gb_refl _ _)) _) hgr5; have b5 := HB.out.kept hg5 (some_ne2 (by omega)); have m13 : w5.cell? ⟨lb, 3, none⟩ = some (.slice none 0 0) := b5.cell 3; have m13a := (fun o => gb_cellN (World.grownBy_alloc w5 o none) m13); have h5s := hg5.size) | (refine step_push TO (w5 := w5) (by rfl) (.tmp 36) (.tmp 40) (by rfl) w.heap.size (.slice none 0 0) 0 [] (by rfl) [.slice (some ⟨gC, 0, none⟩) (n + 40) cC] rfl (by simp [Value.oneCell']) (by rfl) (World.ownsRow_nil _ _ _ _) (by rfl) (by omega) (by omega) ?_; intro g7 c7 w7 hown7 hg7 hat7; have hg7' : w5.grownBy w7 none := hg7; have b7 := b5.kept hg7' (by simp); have m7 : w7.cell? ⟨lb, 3, none⟩ = some (.slice none 0 0) := b7.cell 3; have f7 : w7.frozen? ⟨lb, 3, none⟩ = false := b7.fz 3)))
      all_goals
        have hC := row_ge hown5 (j := gC) rfl
        have hV := row_ge HV.out (j := g) rfl
        have hW := row_ge HW.out (j := gl) rfl
        have h7g : w5.heap.size ≤ g7 := by
          rcases hat7 with e | e
          · simp [Value.ownBlock] at e
          · exact e
        have hgs : w7.grownBy (w7.setCell ⟨lb, 3, none⟩ (.slice (some ⟨g7, 0, none⟩) (0 + 1) c7)) (some lb) := gb_setCell (gb_refl _ _) _
        have kp : ∀ {e z m : Nat} {u : Value} {ys : List Value}, X.ownsRow w.heap.size e z u m ys → e ≠ 68 → (w7.setCell ⟨lb, 3, none⟩ (.slice (some ⟨g7, 0, none⟩) (0 + 1) c7)).ownsRow w.heap.size e z u m ys := fun hr he => by
          have r5 := row_kept hr hg5 (fun k hk e => by have := (row_ge hr hk).2; have := Option.some.inj e; omega)
          have r7 := row_kept r5 hg7' (by simp)
          exact row_kept r7 hgs (fun k hk e => row_box r7 b7 he k hk e)
        have hDl : (l ++ tx40).length = n + 40 := by simp [HN.out]
        have hpost : LtxG y0 y1 (w7.setCell ⟨lb, 3, none⟩ (.slice (some ⟨g7, 0, none⟩) (0 + 1) c7)) lb w.heap.size g c (l ++ tx40) ∧ w.grownBy (w7.setCell ⟨lb, 3, none⟩ (.slice (some ⟨g7, 0, none⟩) (0 + 1) c7)) (some lb) := by
          refine ⟨⟨gl, cl, g7, c7, gC, cC, b7.set 3 _, ?_, ?_, ?_, ?_, by omega, by omega⟩, ?_⟩
          · rw [hDl]; exact kp HW.out (by decide)
          · rw [hDl]; exact row_kept hown7 hgs (fun k hk e => row_box hown7 b7 (by decide) k hk e)
          · rw [hDl]; exact kp HV.out (by decide)
          · rw [hDl]
            have r7 := row_kept (row_base hown5 hXs) hg7' (by simp)
            exact row_kept r7 hgs (fun k hk e => row_box r7 b7 (by decide) k hk e)
          · refine gb_trans HG.out (gb_trans ?_ hgs)
            exact gb_none _ (gb_trans (gb_mine (gb_refl X none) hg5 (Nat.le_refl _)) hg7')
        have HP : Hid _ := hpost
        clear hpost hown5 hown7 hgr5 hg5 hg7 hg7' b5 b7 m13 m13a HV HW HB HG hat5 hat7 hgs kp hDl hC hV hW
        go_wp2
        go_ret
        exact ⟨g, c, by rw [HN.out]; rfl, HP.out⟩
end Go.Proofs.YtobegepebochkaaGreatDoor
namespace Go.Proofs.YtobegepebochkaaGreatDoor
open Go.RowKit Go.Maps
def LtR (x2 x3 : Value) (w : World) (B g c : Nat) (D : List Bs) : Prop :=
  ∃ gl cl gw cw u cu, x2 = .slice (some ⟨gl, 0, none⟩) 1 cl ∧ x3 = .slice (some ⟨gw, 0, none⟩) 1 cw ∧ w.ownsRow B 36 1 (.slice (some ⟨gl, 0, none⟩) 1 cl) 1 [.slice (some ⟨g, 0, none⟩) D.length c] ∧ w.ownsRow B 36 1 (.slice (some ⟨gw, 0, none⟩) 1 cw) 1 [.slice (some ⟨u, 0, none⟩) D.length cu] ∧ w.ownsRow B 9 1 (.slice (some ⟨g, 0, none⟩) D.length c) D.length (D.map sv) ∧ w.ownsRow B 9 1 (.slice (some ⟨u, 0, none⟩) D.length cu) D.length (D.map sv) ∧ gl ≠ gw ∧ g ≠ u
theorem LtxG.parts {y0 y1 : Value} {w : World} {lb B g c : Nat} {D : List Bs} (h : LtxG y0 y1 w lb B g c D) : ∃ x2 x3, Box w 68 lb #[y0, y1, x2, x3] ∧ LtR x2 x3 w B g c D := by
  obtain ⟨gl, cl, gw, cw, u, cu, h1, h2, h3, h4, h5, h6, h7⟩ := h
  exact ⟨_, _, h1, gl, cl, gw, cw, u, cu, rfl, rfl, h2, h3, h4, h5, h6, h7⟩
theorem LtR.kept {x2 x3 : Value} {w w' : World} {B g c : Nat} {D : List Bs} (h : LtR x2 x3 w B g c D) {row : Option Nat} (hg : w.grownBy w' row) {b t : Nat} {vs : Array Value} (hr : row = none ∨ row = some b) (hb : Box w t b vs) (h36 : (36 : Nat) ≠ t) (h9 : (9 : Nat) ≠ t) : LtR x2 x3 w' B g c D := by
  obtain ⟨gl, cl, gw, cw, u, cu, rfl, rfl, h2, h3, h4, h5, h6, h7⟩ := h
  have key : ∀ {e z m : Nat} {v : Value} {ys : List Value}, w.ownsRow B e z v m ys → e ≠ t → w'.ownsRow B e z v m ys := fun hw he => row_kept hw hg (fun k hk e => by
    rcases hr with rfl | rfl
    · cases e
    · exact row_box hw hb he k hk e)
  exact ⟨gl, cl, gw, cw, u, cu, rfl, rfl, key h2 h36, key h3 h36, key h4 h9, key h5 h9, h6, h7⟩
theorem LtR.down {x2 x3 : Value} {w : World} {B B' g c : Nat} {D : List Bs} (h : LtR x2 x3 w B g c D) (hB : B' ≤ B) : LtR x2 x3 w B' g c D := by
  obtain ⟨gl, cl, gw, cw, u, cu, h0, h1, h2, h3, h4, h5, h6, h7⟩ := h
  exact ⟨gl, cl, gw, cw, u, cu, h0, h1, row_base h2 hB, row_base h3 hB, row_base h4 hB, row_base h5 hB, h6, h7⟩
theorem LntG.down {x2 x3 : Value} {w : World} {lb B B' g c : Nat} {D : Bs} (h : LntG x2 x3 w lb B g c D) (hB : B' ≤ B) : LntG x2 x3 w lb B' g c D := by
  obtain ⟨gl, cl, gw, cw, u, cu, h1, h2, h3, h4, h5, h6, h7⟩ := h
  exact ⟨gl, cl, gw, cw, u, cu, h1, row_base h2 hB, row_base h3 hB, row_base h4 hB, row_base h5 hB, h6, h7⟩
theorem LntG.kept {x2 x3 : Value} {w w' : World} {lb B g c : Nat} {D : Bs} (h : LntG x2 x3 w lb B g c D) {b : Nat} {vs : Array Value} (hg : w.grownBy w' (some b)) (hne : lb ≠ b) (hb : Box w 41 b vs) : LntG x2 x3 w' lb B g c D := by
  obtain ⟨gl, cl, gw, cw, u, cu, h1, h2, h3, h4, h5, h6, h7⟩ := h
  have key : ∀ {e z m : Nat} {v : Value} {ys : List Value}, w.ownsRow B e z v m ys → e ≠ 41 → w'.ownsRow B e z v m ys := fun hw he => row_kept hw hg (fun k hk e => row_box hw hb he k hk e)
  exact ⟨gl, cl, gw, cw, u, cu, h1.kept hg (some_ne2 hne), key h2 (by decide), key h3 (by decide), key h4 (by decide), key h5 (by decide), h6, h7⟩
theorem sets_11 (u0 u1 u2 u3 u4 u5 u6 u7 u8 u9 u10 v0 v1 v2 v3 v4 v5 v6 v7 v8 v9 v10 : Value) : sets #[u0, u1, u2, u3, u4, u5, u6, u7, u8, u9, u10] 0 [v0, v1, v2, v3, v4, v5, v6, v7, v8, v9, v10] = #[v0, v1, v2, v3, v4, v5, v6, v7, v8, v9, v10] := by
  simp only [sets, List.setIfInBounds_toArray, List.set_cons_zero, List.set_cons_succ]
theorem res32 {w : World} {b : Nat} {c0 c1 c2 c3 c4 c5 c6 c7 c8 c9 c10 : Value} (h : Box w 41 b #[c0, c1, c2, c3, c4, c5, c6, c7, c8, c9, c10]) (tmps : Array Value) (h2 : tmps[4]?.getD undef = .pointer (some ⟨b, 0, none⟩)) : (results Tryz.f32 tmps).run Tryz.prog w = .ok (.agg #[c0, c1, c2, c3, c4, c5, c6, c7, c8, c9, c10]) w := by
  have hr : Tryz.f32.results = #[.cell 4 41] := rfl
  have p0 := h.cell 0
  have p1 := h.cell 1
  have p2 := h.cell 2
  have p3 := h.cell 3
  have p4 := h.cell 4
  have p5 := h.cell 5
  have p6 := h.cell 6
  have p7 := h.cell 7
  have p8 := h.cell 8
  have p9 := h.cell 9
  have p10 := h.cell 10
  simp at p0 p1 p2 p3 p4 p5 p6 p7 p8 p9 p10
  unfold results
  simp [hr, h2, go_sem, p0, p1, p2, p3, p4, p5, p6, p7, p8, p9, p10]
set_option maxRecDepth 100000 in
set_option maxHeartbeats 8000000 in
theorem command_32 {w0 w : World} {lb : Nat} (h0 : w0.grownBy w none) (hlb : w0.heap.size ≤ lb) (hb : Box w 68 lb #[.slice none 0 0, .slice none 0 0, .slice none 0 0, .slice none 0 0]) {c : Cmd} {d : Bs} {lg : Bool} {ka da ma : Option Addr} {kn kc dc mn mc : Nat} (hk : Ws w0 (.slice ka kn kc) c.keys) (hd : Bw w0 (.slice da d.length dc) d) (hdl : d.length ≤ 900000) (hkl : c.keys.length ≤ 10000000) :
    Calls Tryz.prog 32 #[.pointer (some ⟨lb, 0, none⟩), .agg (cmB c (.slice ka kn kc) (.slice da d.length dc) (.slice ma mn mc) lg)] w fun e w' => ∃ gk ck gd cd x2 x3, e = .returned (.agg (cmB c (.slice (some ⟨gk, 0, none⟩) c.keys.length ck) (.slice (some ⟨gd, 0, none⟩) d.length cd) (.slice ma mn mc) lg)) ∧ LntG x2 x3 w' lb w.heap.size gd cd (d ++ mk40) ∧ LtR x2 x3 w' w.heap.size gk ck (c.keys ++ tx40) ∧ w.grownBy w' (some lb) := by
  have hlt := hb.lt
  have g1 := gb_alloc (gb_alloc (gb_refl w none) (.cells (cmB c (.slice ka kn kc) (.slice da d.length dc) (.slice ma mn mc) lg) 41)) (.cells (Z31 0 false) 41)
  have b1 := (Box.new w 41 (cmB c (.slice ka kn kc) (.slice da d.length dc) (.slice ma mn mc) lg)).kept (gb_alloc (gb_refl _ none) (.cells (Z31 0 false) 41)) (by simp)
  have z1 := Box.new (w.alloc (.cells (cmB c (.slice ka kn kc) (.slice da d.length dc) (.slice ma mn mc) lg) 41)) 41 (Z31 0 false)
  simp only [World.size_alloc] at z1
  go_enter Tryz.func32, Tryz.ntmps32
  go_upto_region 1 with fail
  generalize hW1 : (w.alloc (.cells (cmB c (.slice ka kn kc) (.slice da d.length dc) (.slice ma mn mc) lg) 41)).alloc (.cells (Z31 0 false) 41) = W1 at *
  have gw1 := gb_trans h0 g1
  have hb1 := hb.kept g1 (by simp)
  have hs1 : w.heap.size + 2 ≤ W1.heap.size := by rw [← hW1]; simp
  have h79 := texts_79 hb1 (hk.kept0 gw1) hkl
  have p1 : W1.cell? ⟨w.heap.size, 1, none⟩ = some (.slice ka kn kc) := b1.cell 1
  clear hW1
  go_upto_region 2 with (go_at_call 79; go_must ((with_reducible refine h79.mono ?_); rintro e w2 ⟨gk, ck, rfl, hT2, g2⟩; (have b2 := b1.kept g2 (some_ne2 (by omega))); (have z2 := z1.kept g2 (some_ne2 (by omega))); (have m1 : w2.cell? ⟨w.heap.size, 1, none⟩ = some (.slice ka kn kc) := b2.cell 1); (have f1 := b2.fz 1)))
  obtain ⟨x2, x3, hb2, hR2⟩ := hT2.parts
  have gs := gb_setCell (i := 1) (gb_refl w2 (some w.heap.size)) (.slice (some ⟨gk, 0, none⟩) c.keys.length ck)
  have b3 : Box (w2.setCell ⟨w.heap.size, 1, none⟩ (.slice (some ⟨gk, 0, none⟩) c.keys.length ck)) 41 w.heap.size (cmB c (.slice (some ⟨gk, 0, none⟩) c.keys.length ck) (.slice da d.length dc) (.slice ma mn mc) lg) := b2.set 1 _
  have z3 := z2.kept gs (some_ne2 (by omega))
  have hb3 := hb2.kept gs (some_ne2 (by omega))
  have hR3 := hR2.kept gs (.inr rfl) b2 (by decide) (by decide)
  have gw2 : w.grownBy w2 (some lb) := gb_trans (gb_none _ g1) g2
  have q3 : w0.grownBy w2 none := gb_mine gw1 g2 hlb
  have q4 : w0.grownBy (w2.setCell ⟨w.heap.size, 1, none⟩ (.slice (some ⟨gk, 0, none⟩) c.keys.length ck)) none := gb_mine q3 gs h0.size
  have s3 : W1.heap.size ≤ (w2.setCell ⟨w.heap.size, 1, none⟩ (.slice (some ⟨gk, 0, none⟩) c.keys.length ck)).heap.size := Nat.le_trans g2.size gs.size
  have gA : ∀ k, k < w.heap.size → k ≠ lb → (w2.setCell ⟨w.heap.size, 1, none⟩ (.slice (some ⟨gk, 0, none⟩) c.keys.length ck)).heap[k]? = w.heap[k]? := fun k h1 h2 => (gs.block k (Nat.lt_of_lt_of_le h1 gw2.size) (some_ne2 (by omega))).trans (gw2.block k h1 (some_ne2 h2))
  have gw3 : w.grownBy (w2.setCell ⟨w.heap.size, 1, none⟩ (.slice (some ⟨gk, 0, none⟩) c.keys.length ck)) (some lb) := ⟨gs.os.trans gw2.os, gs.tape.trans gw2.tape, gs.output.trans gw2.output, Nat.le_trans gw2.size gs.size, fun k h1 h2 => gA k h1 (fun e => h2 (by rw [e]))⟩
  generalize hW3 : w2.setCell ⟨w.heap.size, 1, none⟩ (.slice (some ⟨gk, 0, none⟩) c.keys.length ck) = W3 at *
  clear hW3 gA b2 z2 m1 f1 gs hT2 hb2 hR2 h79 b1 z1 hb1 p1 gw1 g1 gw2 q3 g2
  have h46 := loan_46g hb3 (hd.kept q4) hdl
  have p6 : W3.cell? ⟨w.heap.size, 6, none⟩ = some (.slice da d.length dc) := b3.cell 6
  go_upto_region 3 with (go_at_call 46; go_must ((with_reducible refine h46.mono ?_); rintro e w4 ⟨gd, cd, rfl, hL4, g4⟩; (have b4 := b3.kept g4 (some_ne2 (by omega))); (have z4 := z3.kept g4 (some_ne2 (by omega))); (have m6 : w4.cell? ⟨w.heap.size, 6, none⟩ = some (.slice da d.length dc) := b4.cell 6); (have f6 := b4.fz 6)))
  have hR4 := hR3.kept g4 (.inr rfl) hb3 (by decide) (by decide)
  have gs := gb_setCell (i := 6) (gb_refl w4 (some w.heap.size)) (.slice (some ⟨gd, 0, none⟩) d.length cd)
  have b5 : Box (w4.setCell ⟨w.heap.size, 6, none⟩ (.slice (some ⟨gd, 0, none⟩) d.length cd)) 41 w.heap.size (cmB c (.slice (some ⟨gk, 0, none⟩) c.keys.length ck) (.slice (some ⟨gd, 0, none⟩) d.length cd) (.slice ma mn mc) lg) := b4.set 6 _
  have z5 := z4.kept gs (some_ne2 (by omega))
  have hR5 := hR4.kept gs (.inr rfl) b4 (by decide) (by decide)
  have hL5 := hL4.kept gs (by omega) b4
  have gw4 : w.grownBy w4 (some lb) := gb_trans gw3 g4
  have gA : ∀ k, k < w.heap.size → k ≠ lb → (w4.setCell ⟨w.heap.size, 6, none⟩ (.slice (some ⟨gd, 0, none⟩) d.length cd)).heap[k]? = w.heap[k]? := fun k h1 h2 => (gs.block k (Nat.lt_of_lt_of_le h1 gw4.size) (some_ne2 (by omega))).trans (gw4.block k h1 (some_ne2 h2))
  have gw5 : w.grownBy (w4.setCell ⟨w.heap.size, 6, none⟩ (.slice (some ⟨gd, 0, none⟩) d.length cd)) (some lb) := ⟨gs.os.trans gw4.os, gs.tape.trans gw4.tape, gs.output.trans gw4.output, Nat.le_trans gw4.size gs.size, fun k h1 h2 => gA k h1 (fun e => h2 (by rw [e]))⟩
  have hs3 := s3
  generalize hW5 : w4.setCell ⟨w.heap.size, 6, none⟩ (.slice (some ⟨gd, 0, none⟩) d.length cd) = W5 at *
  clear hW5 gA b4 z4 m6 f6 gs hL4 hR4 h46 b3 z3 hR3 hb3 p6 gw4 gw3 g4
  go_wp2_with (first
    | (refine atL 41 w.heap.size 0 rfl rfl ?_; go_must (refine load41 rfl _ rfl 41 w.heap.size 0 _ b5 rfl (cmB c (.slice (some ⟨gk, 0, none⟩) c.keys.length ck) (.slice (some ⟨gd, 0, none⟩) d.length cd) (.slice ma mn mc) lg).toList rfl (fun j v hv => by simpa using hv) ?_))
    | (refine atS 41 (w.heap.size + 1) 0 rfl rfl ?_; go_must (refine storeT 41 11 size41 rfl _ _ rfl 41 (w.heap.size + 1) 0 _ z5 (by simp) rfl _ rfl rfl (by simp [Value.oneCell']) ?_); intro X6 b6 g6))
  have b7 : Box X6 41 (w.heap.size + 1) (cmB c (.slice (some ⟨gk, 0, none⟩) c.keys.length ck) (.slice (some ⟨gd, 0, none⟩) d.length cd) (.slice ma mn mc) lg) := by
    have := b6
    rw [sets_11] at this
    exact this
  have gA : ∀ k, k < w.heap.size → k ≠ lb → X6.heap[k]? = w.heap[k]? := fun k h1 h2 => (g6.block k (Nat.lt_of_lt_of_le h1 gw5.size) (some_ne2 (by omega))).trans (gw5.block k h1 (some_ne2 h2))
  exact ⟨rfl, _, res32 b7 _ rfl, gk, ck, gd, cd, rfl, x2, x3, (hL5.kept g6 (by omega) z5).down (by omega), (hR5.kept g6 (.inr rfl) z5 (by decide) (by decide)).down (by omega), ⟨g6.os.trans gw5.os, g6.tape.trans gw5.tape, g6.output.trans gw5.output, Nat.le_trans gw5.size g6.size, fun k h1 h2 => gA k h1 (fun e => h2 (by rw [e]))⟩⟩
end Go.Proofs.YtobegepebochkaaGreatDoor
