import Derived.Test.YtndjimdegkdljaaMc
/-
  Restart.
-/
namespace Go.Proofs.Ytndjimdegkdljaa
open Go.RowKit Go.MapKept
open Go.ChangeMaps (setBlock)
set_option linter.unusedVariables false
set_option linter.unusedSimpArgs false
attribute [local go_sem] Oper.semAt_some

set_option maxRecDepth 100000 in
set_option maxHeartbeats 4000000 in
theorem restart_11 {w : World} {p : Pl} {M : Md} (h : RP w p M) {lv : Value} {ls : List Int} (hlv : w.ownsRow 0 3 1 lv ls.length (ls.map (Value.int .i64))) (hlc : ∀ b, lv.ownBlock = some b → p.col b = 0) (nk : Int) (hsm : ∀ k, (M.file k).1.length ≤ 1000000000) :
    Calls Try.prog 11 #[pv p.d, .agg #[lv, .int .i64 nk]] w fun e w' => e = .returned (.tuple #[]) ∧ ∃ p' S, RP w' p' (((M.settle (btw nk M.ch.length).toNat).cutBy S ls).wake) ∧ Aft w w' p p' ∧ ∀ k, k ∈ S ↔ ∃ s, (M.settle (btw nk M.ch.length).toNat).names s = some k := by
  obtain ⟨la, lc, el, -⟩ := row_shape hlv
  have hbt := btw_in nk (M.ch.length : Int) (by omega)
  obtain ⟨n, hn⟩ : ∃ n : Nat, btw nk (M.ch.length : Int) = (n : Int) := ⟨_, (Int.toNat_of_nonneg hbt.1).symm⟩
  have h46 := fun W => within_46 nk (M.ch.length : Int) (by omega) W
  rw [hn] at h46 hbt ⊢
  rw [Int.toNat_natCast]
  have hnl : n ≤ M.ch.length := by omega
  have g0 := gb_alloc (gb_refl w none) (.cells #[lv, .int .i64 nk] 42)
  have B0 := Box.new w 42 #[lv, .int .i64 nk]
  have hs0 : (w.alloc (.cells #[lv, .int .i64 nk] 42)).heap.size = w.heap.size + 1 := by simp
  have h0 := h.gb g0
  obtain ⟨cao, ccp, ec, -⟩ := row_shape h.ch
  obtain ⟨W, hW⟩ : ∃ W, w.alloc (.cells #[lv, .int .i64 nk] 42) = W := ⟨_, rfl⟩
  rw [hW] at g0 B0 h0 hs0
  have c0 : W.cell? ⟨w.heap.size, 0, none⟩ = some lv := B0.cell 0
  have c1 : W.cell? ⟨w.heap.size, 1, none⟩ = some (.int .i64 nk) := B0.cell 1
  have c7 : W.cell? ⟨p.d, 7, none⟩ = some p.cv := h0.box.cell 7
  rw [ec] at c7
  have h45 := fun (V : World) (gV : W.grownBy V none) => settle_45 (h0.gb gV) n hnl
  have HH := Lib.hid (And.intro h (And.intro h0 (And.intro g0 (And.intro hlv B0))))
  clear h h0 hlv ec B0 g0
  subst el
  generalize hcl : M.ch.length = cl at *
  go_enter Try.func11, Try.ntmps11
  go_upto_region 1 with fail
  go_region_with (first
    | (go_at_call 46; go_must (refine (h46 _).mono ?_); rintro y w9 ⟨rfl, hw9⟩; have hw8 := hw9.symm; subst hw8)
    | (go_at_call 45; go_must (refine (h45 _ (gb_drew (gb_refl _ _))).mono ?_); rintro y w9 ⟨rfl, hN9, hB9, hK9⟩; (have H9 := Lib.hid (And.intro hN9 (And.intro hB9 hK9))); clear hN9 hB9 hK9))
  all_goals
    obtain ⟨hN9, hB9, hK9⟩ := H9.out
    obtain ⟨h, h0, g0, hlv, B0⟩ := HH.out
    have hlt := h.lt p.d (by rw [h.cd]; decide)
    have hne : p.bs ≠ p.d := fun e => by have h1 := h.cs; rw [e, h.cd] at h1; omega
    have hbs := h.lt p.bs (by rw [h.cs]; decide)
    have hsz9 : w.heap.size + 1 ≤ w9.heap.size := by have := hK9.size; have h2 : W.drew.heap.size = w.heap.size + 1 := hs0; omega
    have q6 : w9.cell? ⟨p.d, 6, none⟩ = some (.map (some p.bs)) := hB9.cell 6
    have h47 := clone_47 hN9
    have HLC := Lib.hid hlc
    clear h h0 g0 hlv B0 hN9 hB9 hK9 h45 h46 c0 c1 c7 hW hlc
    go_upto_region 3 with (go_at_call 47; go_must (refine h47.mono ?_); rintro y w10 ⟨rfl, hN10, g10⟩; (have b10 := H9.out.2.1.kept g10 (by simp)); (have q5 : w10.cell? ⟨p.d, 5, none⟩ = some (.map (some p.bn)) := b10.cell 5); (have f5 : w10.frozen? ⟨p.d, 5, none⟩ = false := b10.fz 5); (have H10 := Lib.hid (And.intro hN10 (And.intro g10 b10))); clear hN10 g10 b10)
    obtain ⟨hN10, g10, b10⟩ := H10.out
    obtain ⟨hN9, hB9, hK9⟩ := H9.out
    obtain ⟨h, h0, g0, hlv, B0⟩ := HH.out
    have gd : w10.grownBy (w10.setCell ⟨p.d, 5, none⟩ (.map (some w9.heap.size))) (some p.d) := gb_setCell (gb_refl _ _) _
    have K0 : Kp (fun b => b = p.d ∨ b = p.bs) w w9 := (Kp.of (F := fun b => b = p.d ∨ b = p.bs) g0).trans ((Kp.of (F := fun b => b = p.d ∨ b = p.bs) (gb_drew (gb_refl W none))).trans hK9 (fun _ h => h) (fun _ h => .inl h)) (fun _ h => h) (fun _ h => .inl h)
    have K1 : Kp (fun b => b = p.d ∨ b = p.bs) w (w10.setCell ⟨p.d, 5, none⟩ (.map (some w9.heap.size))) := (K0.step g10 (by simp)).step gd (fun i hi => .inl (.inl (Option.some.inj hi).symm))
    have R := h.restarted (n := n) (b' := w9.heap.size) ((hN9.kept g10 (by simp)).kept gd (by simp; exact hne)) (hN10.kept gd (by simp; omega)) (b10.set 5 _) K1 (by omega)
    have lvV : (w10.setCell ⟨p.d, 5, none⟩ (.map (some w9.heap.size))).ownsRow 0 3 1 (.slice la ls.length lc) ls.length (ls.map (Value.int .i64)) := row_same hlv (fun b hb => K1.block b (row_ge hlv hb).2 (by
      have hc := HLC.out b hb
      rintro (e | e)
      · rw [e, h.cd] at hc; omega
      · rw [e, h.cs] at hc; omega))
    have B1 : Box (w10.setCell ⟨p.d, 5, none⟩ (.map (some w9.heap.size))) 42 w.heap.size #[.slice la ls.length lc, .int .i64 nk] := by
      have k2 : Kp (fun b => b = p.d ∨ b = p.bs) W w9 := (Kp.of (F := fun b => b = p.d ∨ b = p.bs) (gb_drew (gb_refl W none))).trans hK9 (fun _ h => h) (fun _ h => .inl h)
      exact ((k2.box B0 (by omega)).kept g10 (by simp)).kept gd (by simp; omega)
    obtain ⟨V, hV⟩ : ∃ V, w10.setCell ⟨p.d, 5, none⟩ (.map (some w9.heap.size)) = V := ⟨_, rfl⟩
    rw [hV] at R lvV B1 gd K1 ⊢
    have hVs : w9.heap.size < V.heap.size := R.1.nm.lt
    have HV := Lib.hid (And.intro R (And.intro lvV B1))
    clear hN10 g10 b10 hN9 hB9 hK9 h h0 g0 hlv B0 gd K0 K1 R lvV B1 hV q5 f5 q6 h47 H9 H10 HH
    obtain ⟨R, lvV, B1⟩ := HV.out
    obtain ⟨es, ck, hb, hs, hr⟩ := R.1.nm
    obtain ⟨dec, hE⟩ := hr.ent hs
    have c5 : V.cell? ⟨p.d, 5, none⟩ = some (.map (some w9.heap.size)) := R.1.box.cell 5
    have hb : V.heap[w9.heap.size]? = some (.map es ck) := hb
    have hrun := rg_start hb
    have gX := gb_alloc (gb_refl V none) (.mapIter (some w9.heap.size) ck #[] ck)
    have hit : (V.alloc (.mapIter (some w9.heap.size) ck #[] ck)).heap[V.heap.size]? = some (.mapIter (some w9.heap.size) ck #[] ck) := heap_alloc_new V _
    have hXs : (V.alloc (.mapIter (some w9.heap.size) ck #[] ck)).heap.size = V.heap.size + 1 := by simp
    obtain ⟨X, hX⟩ : ∃ X, V.alloc (.mapIter (some w9.heap.size) ck #[] ck) = X := ⟨_, rfl⟩
    rw [hX] at hrun gX hit hXs
    obtain ⟨p1, hp1⟩ : ∃ p1, p.again w9.heap.size = p1 := ⟨_, rfl⟩
    have hd1 : p1.d = p.d := by rw [← hp1]; rfl
    have hbn1 : p1.bn = w9.heap.size := by rw [← hp1]; rfl
    rw [hp1] at R hE hr
    obtain ⟨M1, hM1⟩ : ∃ M1, M.settle n = M1 := ⟨_, rfl⟩
    have hsm1 : ∀ k, (M1.file k).1.length ≤ 1000000000 := by rw [← hM1]; exact hsm
    have RX := R.1.gb gX
    have BX := B1.kept gX (by simp)
    have lvX := row_kept lvV gX (by simp)
    have hbX := (gX.block _ hVs (by simp)).trans hb
    obtain ⟨bm, hbm⟩ : ∃ bm, w9.heap.size = bm := ⟨_, rfl⟩
    have AX : Aft w V p p1 := R.2
    have AV : Aft V X p1 p1 := Aft.of gX
    have hcV : p1.col V.heap.size = 0 := by
      by_cases hc : p1.col V.heap.size = 0
      · exact hc
      · have := R.1.lt _ hc
        omega
    rw [hM1] at RX hE
    rw [hbm] at hb hrun hit hbn1 hbX c5 hVs
    have HW := Lib.hid (show RP X p1 M1 ∧ (Aft w V p p1 ∧ Aft V X p1 p1 ∧ p1.col V.heap.size = 0) ∧ Ent es p1.fb M1.names dec ∧ Stamped es ck ∧ Box X 42 w.heap.size #[.slice la ls.length lc, .int .i64 nk] ∧ X.ownsRow 0 3 1 (.slice la ls.length lc) ls.length (ls.map (Value.int .i64)) ∧ X.heap[bm]? = some (.map es ck) ∧ M.settle n = M1 from ⟨RX, ⟨AX, AV, hcV⟩, hE, hs, BX, lvX, hbX, hM1⟩)
    clear RX AX AV hcV hE hs BX lvX hbX hM1 HV R lvV B1 hb hr hp1 gX hX hbm
    go_wp2_with fail
    go_loopw [] (fun wr => ∃ (seen : Array Nat) (S : List Nat) (p' : Pl), wr.heap[V.heap.size]? = some (.mapIter (some bm) ck seen ck) ∧ wr.heap[bm]? = some (.map es ck) ∧ RP wr p' (M1.cutBy S ls) ∧ p'.col V.heap.size = 0 ∧ Aft V wr p1 p' ∧ p'.fb = p1.fb ∧ p'.bn = bm ∧
      Box wr 42 w.heap.size #[.slice la ls.length lc, .int .i64 nk] ∧ wr.ownsRow 0 3 1 (.slice la ls.length lc) ls.length (ls.map (Value.int .i64)) ∧ (∀ k ∈ S, ∃ s, M1.names s = some k) ∧ ∀ e ∈ es.toList, e ∈ (leftOf es seen).toList ∨ (dec e).2 ∈ S) (fun wr => itL es V.heap.size wr)
    case atStart =>
      obtain ⟨RX, ⟨AX, AV, hcV⟩, hE, hs, BX, lvX, hbX, hM1⟩ := HW.out
      refine ⟨#[], [], p1, hit, hbX, by rw [cutBy_nil]; exact RX, hcV, AV, rfl, hbn1, BX, lvX, (fun k hk => by cases hk), fun e he => .inl ?_⟩
      have : (leftOf es #[]).toList = es.toList := by unfold leftOf; simp
      rw [this]
      exact he
    case round =>
      obtain ⟨seen, S, p', hiter, hbr, hR, hcI, hA, hfb', hbn', hBx, hlw, hS1, hS2⟩ := hrel
      obtain ⟨RX, ⟨AX, AV, hcV⟩, hE, hs, BX, lvX, hbX, hM1⟩ := HW.out
      rcases run_next_at (P := Try.prog) wr 0 V.heap.size bm ck ck seen es ck hiter hbr hs.1 (Nat.le_refl _) with ⟨h0, hnx⟩ | ⟨e, he, w1, hw1, hnx⟩
      · have hnil : (leftOf es seen).toList = [] := List.eq_nil_of_length_eq_zero (by simpa using h0)
        have hd' : p'.d = p.d := hA.d.trans hd1
        have hwk := hR.woken
        rw [hd'] at hwk
        have hbx := hR.box
        rw [hd'] at hbx
        have q3 : wr.cell? ⟨p.d, 3, none⟩ = some (.bool (!(M1.cutBy S ls).dark)) := hbx.cell 3
        have q4 : wr.cell? ⟨p.d, 4, none⟩ = some p'.pl := hbx.cell 4
        have f3 : wr.frozen? ⟨p.d, 3, none⟩ = false := hbx.fz 3
        have f4 : wr.frozen? ⟨p.d, 4, none⟩ = false := hbx.fz 4
        have hmem : ∀ k, k ∈ S ↔ ∃ s, M1.names s = some k := fun k => ⟨hS1 k, fun ⟨s, hsk⟩ => by
          have hin := lk_mem ((hE.rep.lk s).trans hsk)
          obtain ⟨e, he, hde⟩ := List.mem_map.1 hin
          rcases hS2 e he with h1 | h1
          · rw [hnil] at h1
            cases h1
          · rw [hde] at h1
            exact h1⟩
        have HZ := Lib.hid (show _ ∧ _ ∧ _ from ⟨hwk.1, (AX.trans hA).trans hwk.2, hmem⟩)
        have HM1 := Lib.hid hM1
        clear hwk hbx hmem RX AX AV hcV hcI hE hs BX lvX hbX hM1 hR hA hBx hlw hS1 hS2 HW hbr hiter
        go_wp2_with fail
        go_end0
        refine ⟨rfl, p'.wake, S, ?_⟩
        rw [HM1.out]
        exact HZ.out
      · have hmem := (left_sub es seen).subset he
        obtain ⟨e1, e2, e3⟩ := hE.sp e hmem
        rw [← hfb'] at e2
        have hper := perm_pick ((hs.2.1.sublist ((left_sub es seen).map (·.born)))) he
        rw [← left_push] at hper
        have hr2 : (setBlock w1 V.heap.size (.mapIter (some bm) ck (seen.push e.born) ck)).heap[V.heap.size]? = some (.mapIter (some bm) ck (seen.push e.born) ck) := setB_at hw1 hiter
        have hg2 := gb_setB (r := V.heap.size) hw1 (.mapIter (some bm) ck (seen.push e.born) ck)
        have hb2 := (hg2.block bm (lt_of_block hbr) (by simp; omega)).trans hbr
        have hen := run_entry_at (P := Try.prog) _ V.heap.size bm ck seen es ck e hr2 hb2 hmem hs.2.1
        obtain ⟨V2, hV2⟩ : ∃ V2, setBlock w1 V.heap.size (.mapIter (some bm) ck (seen.push e.born) ck) = V2 := ⟨_, rfl⟩
        rw [hV2] at hr2 hg2 hb2 hen hnx
        rw [e1, e2] at hnx hen
        have hrk := Md.names_reach e3
        have hlk := reach_lt RX.ok hrk
        obtain ⟨k, hk⟩ : ∃ k, (dec e).2 = k := ⟨_, rfl⟩
        rw [hk] at hnx hen hrk hlk e3
        have hR2 : RP V2 p' (M1.cutBy S ls) := hR.keep (fun b hb => hg2.block b (hR.lt b hb) (fun e => by
          rw [Option.some.inj e] at hb
          exact hb hcI)) hg2.size
        have hlw2 := row_kept hlw hg2 (fun b hb e => by
          obtain ⟨cur, hc⟩ := row_block hlw b hb
          rw [Option.some.inj e, hiter] at hc
          cases hc)
        have hBx2 : Box V2 42 w.heap.size _ := hBx.kept hg2 (fun e => by
          have hc : wr.heap[w.heap.size]? = _ := hBx
          rw [Option.some.inj e, hiter] at hc
          cases hc)
        have hrk2 : Reach (M1.cutBy S ls) k := hrk
        have hfl2 := hR2.fl k _ hrk2 (file_some (by rw [cutBy_len]; exact hlk))
        have hfx : V2.heap[p'.fb k]? = some (.cells _ 109 (0, 0)) := hfl2.box
        have hsz2 : ((M1.cutBy S ls).file k).1.length ≤ 1000000000 := by
          have := hsm1 k
          rw [cutBy_file M1 S ls k hlk]
          split
          · simp only [cutF, List.length_take]
            omega
          · exact this
        have h48 := cut_48 hR2 hrk2 hlw2 hsz2
        have hstep := cutBy_step M1 S ls k hlk RX.ok.fl
        have c0 : V2.cell? ⟨w.heap.size, 0, none⟩ = some (.slice la ls.length lc) := hBx2.cell 0
        have hVr : V.heap.size < V2.heap.size := lt_of_block hr2
        have hme : ∀ w3 : World, w3.heap[V.heap.size]? = some (.mapIter (some bm) ck (seen.push e.born) ck) → itL es V.heap.size w3 < itL es V.heap.size wr := fun w3 h3 => by
          unfold itL
          rw [h3, hiter]
          have := hper.length_eq
          simp only [List.length_cons, Array.length_toList] at this
          show (leftOf es (seen.push e.born)).size < (leftOf es seen).size
          omega
        have FIN : ∀ (w3 : World) (v : Value), RP w3 (p'.put k v) ((M1.cutBy S ls).put k (cutF ls k ((M1.cutBy S ls).file k))) → Aft V2 w3 p' (p'.put k v) → Kp (fun b => b = p'.fb k) V2 w3 →
            (∃ (seen : Array Nat) (S : List Nat) (p' : Pl), w3.heap[V.heap.size]? = some (.mapIter (some bm) ck seen ck) ∧ w3.heap[bm]? = some (.map es ck) ∧ RP w3 p' (M1.cutBy S ls) ∧ p'.col V.heap.size = 0 ∧ Aft V w3 p1 p' ∧ p'.fb = p1.fb ∧ p'.bn = bm ∧
              Box w3 42 w.heap.size #[.slice la ls.length lc, .int .i64 nk] ∧ w3.ownsRow 0 3 1 (.slice la ls.length lc) ls.length (ls.map (Value.int .i64)) ∧ (∀ k ∈ S, ∃ s, M1.names s = some k) ∧ ∀ e ∈ es.toList, e ∈ (leftOf es seen).toList ∨ (dec e).2 ∈ S) ∧ itL es V.heap.size w3 < itL es V.heap.size wr := by
          intro w3 v r3 a3 k3
          have i3 : w3.heap[V.heap.size]? = some (.mapIter (some bm) ck (seen.push e.born) ck) := (k3.block _ hVr (fun e => by rw [e, hfx] at hr2; cases hr2)).trans hr2
          rw [hstep] at r3
          refine ⟨⟨seen.push e.born, k :: S, p'.put k v, i3, (k3.block _ (lt_of_block hb2) (fun e => by rw [e, hfx] at hb2; cases hb2)).trans hb2, r3, ?_, ?_, hfb', hbn', k3.box hBx2 (ne_of_type hBx2 hfx (by decide)), ?_, ?_, ?_⟩, hme w3 i3⟩
          · by_cases hc : (p'.put k v).col V.heap.size = 0
            · exact hc
            · exact absurd hcI (a3.col _ hVr hc)
          · exact (⟨hA.kp.step hg2 (fun i hi => .inr (by rw [← Option.some.inj hi]; exact Nat.le_refl _)), hA.d, hA.col⟩ : Aft V V2 p1 p').trans a3
          · refine row_same hlw2 (fun b hb => k3.block b (row_ge hlw2 hb).2 (fun e => ?_))
            obtain ⟨cur, hc⟩ := row_block hlw2 b hb
            exact ne_of_type hc hfx (by decide) e
          · intro j hj
            rcases List.mem_cons.1 hj with rfl | hj
            · exact ⟨_, e3⟩
            · exact hS1 j hj
          · intro e' he'
            rcases hS2 e' he' with h1 | h1
            · rcases List.mem_cons.1 (hper.mem_iff.1 h1) with rfl | h2
              · exact .inr (by rw [hk]; exact List.mem_cons_self)
              · exact .inl h2
            · exact .inr (List.mem_cons_of_mem _ h1)
        have HF := Lib.hid FIN
        clear FIN hme hstep hfx hfl2 hrk2 hBx2 hlw2 hR2 hrk hlk hper hr2 hg2 hb2 RX AX AV hcV hE hs BX lvX hbX hM1 HW hR hcI hA hBx hlw hS1 hS2 hiter hbr hV2 e1 e2 e3 hsz2 he hmem
        generalize hgk : p'.fb k = gk at *
        go_wp2_with (go_at_call 48; go_must (refine h48.mono ?_); rintro y w3 ⟨rfl, v, ⟨r3, a3⟩, k3⟩; (have HG := Lib.hid (And.intro r3 (And.intro a3 k3))); clear r3 a3 k3)
        exact HF.out w3 v HG.out.1 HG.out.2.1 HG.out.2.2
end Go.Proofs.Ytndjimdegkdljaa
