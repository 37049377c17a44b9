import Derived.Test.YtjkdflnnpdionaaGreatUe
import Derived.Deep.RegionHeld3
/-
  QueueChains, the walk.
-/
namespace Go.Proofs.YtjkdflnnpdionaaGreat
open Go.RowKit
set_option linter.unusedVariables false

theorem row_fz {w : World} {B : Nat} {e : TypeId} {s g n c : Nat} {xs : List Value} (h : w.ownsRow B e s (.slice (some ⟨g, 0, none⟩) n c) n xs) (i : Nat) : w.frozen? ⟨g, i, none⟩ = false := by
  rcases h.2 with ⟨h1, _⟩ | ⟨g', c', cur, h1, h2, h3, h4, h5, h6, h7⟩
  · simp at h1
  · simp at h1
    obtain ⟨rfl, rfl⟩ := h1
    simp [World.frozen?, h3]
/-- Where the walk stands, between two calls. -/
def Lw (w0 w : World) (wb N : Nat) (E : Wd) (inv : Value) : Prop := ∃ P D lsb vs Y S cl ins, SameP E D ∧ Qa w0 w P wb N D lsb vs Y S cl ins inv ∧ InP D.xt S ins ∧ ins.length = D.xt.length
section
variable {w0 w w' : World} {P : Nat → Prop} {wb N : Nat} {E D D' : Wd} {lsb : Nat} {vs : Nat → Value} {Y : Nat → List Nat} {cl : Nat → Nat} {S S' : Lm} {ins : List Nat} {inv : Value} {er : Int} {H : Nat} {to : Option (Nat × Nat)}
theorem Qa.sees (h : Qa w0 w P wb N D lsb vs Y S cl ins inv) : ∃ ta tc, (0 < D.xt.length → ∃ tg, ta = some ⟨tg, 0, none⟩ ∧ ∀ W, w.grownBy W none → ∀ (k H : Nat), D.xt[k]? = some H → W.cell? ⟨tg, k, none⟩ = some (.int .u64 (H : Nat))) ∧ ∀ W, w.grownBy W none → W.cell? ⟨wb, 4, none⟩ = some (.slice ta D.xt.length tc) := by
  obtain ⟨ao, cc, htv, _, _, _, hao⟩ := row_shape h.gw.ms.ms.trow
  refine ⟨ao, cc, fun h0 => ?_, fun W hf => ?_⟩
  · obtain ⟨tg, rfl⟩ := hao h0
    refine ⟨tg, rfl, fun W hf k H hk => ?_⟩
    have := (h.gw.ms.kept0 hf).ms.trow
    rw [htv] at this
    exact row_cell this k _ (uvs_get hk)
  · have := (h.gw.ms.ms.box.kept hf (by simp)).cell 4
    rw [htv] at this
    exact this
theorem Qa.seesI (h : Qa w0 w P wb N D lsb vs Y S cl ins inv) : ∃ ia ic, inv = .slice ia ins.length ic ∧ (0 < ins.length → ∃ ig, ia = some ⟨ig, 0, none⟩ ∧ ∀ W, w.grownBy W none → ∀ (k j : Nat), ins[k]? = some j → W.cell? ⟨ig, k, none⟩ = some (.int .i64 (j : Nat)) ∧ W.frozen? ⟨ig, k, none⟩ = false) := by
  obtain ⟨ia, ic, rfl, _, _, _, hia⟩ := row_shape h.row
  refine ⟨ia, ic, rfl, fun h0 => ?_⟩
  obtain ⟨ig, rfl⟩ := hia h0
  exact ⟨ig, rfl, fun W hf k j hk => ⟨row_cell (row_kept h.row hf (by simp)) k _ (i64s_get hk), row_fz (row_kept h.row hf (by simp)) k⟩⟩
theorem Qa.look {ig ic bo k j : Nat} {cs : Array Value} {d0 : Int} (h : Qa w0 w P wb N D' lsb vs Y S' cl ins (.slice (some ⟨ig, 0, none⟩) ins.length ic)) (hm : Mv D D' 0) (hk : D.xt[k]? = some H) (hj : ins[k]? = some j) (hb : Box w 28 bo cs) (hc : cs[0]? = some (.int .i64 d0)) :
    ∃ tg tc, ∀ W, w.grownBy W none → (W.cell? ⟨wb, 3, none⟩ = some (.pointer (some ⟨D.lb, 0, none⟩)) ∧ W.cell? ⟨wb, 4, none⟩ = some (.slice (some ⟨tg, 0, none⟩) D.xt.length tc) ∧ W.cell? ⟨tg, k, none⟩ = some (.int .u64 (H : Nat)) ∧ W.cell? ⟨ig, k, none⟩ = some (.int .i64 (j : Nat)) ∧ W.cell? ⟨bo, 0, none⟩ = some (.int .i64 d0)) ∧ W.frozen? ⟨ig, k, none⟩ = false := by
  obtain ⟨ta, tc, ht, h4⟩ := h.sees
  rw [hm.xt] at ht h4
  obtain ⟨tg, rfl, ht2⟩ := ht (by have := (List.getElem?_eq_some_iff.1 hk).1; omega)
  refine ⟨tg, tc, fun W hf => ⟨⟨?_, h4 W hf, ht2 W hf k H hk, row_cell (row_kept h.row hf (by simp)) k _ (i64s_get hj), ?_⟩, row_fz (row_kept h.row hf (by simp)) k⟩⟩
  · have := (h.kept1 hf).cells.2.2.2
    rw [hm.same.2.2.2] at this
    exact this
  · exact ((hb.kept hf (by simp)).cell 0).trans hc
theorem Qa.isL (h : Qa w0 w P wb N D' lsb vs Y S' cl ins inv) (hm : Mv D D' 0) (H : Nat) : ∀ W, w.grownBy W none → Calls Tryz.prog 27 #[.pointer (some ⟨D.lb, 0, none⟩), .int .u64 H] W fun y w' => y = .returned (.bool (decide (H ∈ D.xl))) ∧ W.grownBy w' none := fun W hf => by
  have := (h.kept1 hf).is_ H
  rw [hm.same.2.2.2, hm.xl] at this
  exact this
theorem lw_stay (hs : SameP E D) (h : Qa w0 w P wb N D' lsb vs Y S' cl ins inv) (hm : Mv D D' 0) (hI : InP D.xt S ins) (e : ins.length = D.xt.length) (he : er ≠ 0) (hM : Mem S S' er H to) (hf : w.grownBy w' none) : Lw w0 w' wb N E inv :=
  ⟨P, D', lsb, vs, Y, S', cl, ins, hs.trans hm.same, h.kept1 hf, by rw [hm.xt]; exact hI.stay he hM, by rw [hm.xt]; exact e⟩
theorem lw_goes {ig ic k : Nat} {kv : Int} (hs : SameP E D) (h : Qa w0 w P wb N D' lsb vs Y S' cl ins (.slice (some ⟨ig, 0, none⟩) ins.length ic)) (hm : Mv D D' 0) (hI : InP D.xt S ins) (e : ins.length = D.xt.length) (hM : Mem S S' 0 H to) (hk : D.xt[k]? = some H) (h3 : ∀ c i, to = some (c, i) → i < 3) (hkv : kv = (kdOf to : Nat)) (hf : w.grownBy w' none) : Lw w0 (w'.setCell ⟨ig, k, none⟩ (.int .i64 kv)) wb N E (.slice (some ⟨ig, 0, none⟩) ins.length ic) := by
  have hkl : k < ins.length := by rw [e]; exact (List.getElem?_eq_some_iff.1 hk).1
  have hg := (h.kept1 hf).rows (ins' := ins.set k (kdOf to)) (inv' := .slice (some ⟨ig, 0, none⟩) ins.length ic) (gb_setCell (gb_refl w' (some ig)) (i := k) (.int .i64 kv)) (by
    have := row_set (h.kept1 hf).row k (.int .i64 kv)
    rw [hkv] at this ⊢
    rw [List.length_set]
    have e2 : i64s (ins.set k (kdOf to)) = (i64s ins).set k (.int .i64 (kdOf to : Nat)) := by unfold i64s; rw [List.map_set]
    rw [e2]
    exact this) (fun k hk => .inl hk)
  exact ⟨_, D', lsb, vs, Y, S', cl, _, hs.trans hm.same, hg, by rw [hm.xt]; exact hI.goes hk hkl h3 hM, by rw [hm.xt, List.length_set]; exact e⟩
theorem Lw.more {M : Nat} (h : Lw w0 w wb N E inv) (h1 : N ≤ M) (h2 : M ≤ 300) : Lw w0 w wb M E inv := by
  obtain ⟨P, D, lsb, vs, Y, S, cl, ins, hs, hQ, hI, he⟩ := h
  exact ⟨P, D, lsb, vs, Y, S, cl, ins, hs, hQ.more h1 h2, hI, he⟩
theorem Lw.gr (h : Lw w0 w wb N E inv) : w0.grownBy w none := by
  obtain ⟨P, D, lsb, vs, Y, S, cl, ins, hs, hQ, hI, he⟩ := h
  exact hQ.gr
end
/-- What makes leaves: some handle more may have been told. -/
def Mw (w0 w : World) (wb N : Nat) (E : Wd) (m : Nat) (inv : Value) : Prop := ∃ P D lsb vs Y S cl ins, SameP E D ∧ Qa w0 w P wb N D lsb vs Y S cl ins inv ∧ InP D.xt S ins ∧ D.xt.length = m
section
variable {w0 w : World} {wb N : Nat} {E : Wd} {inv : Value} {m : Nat}
theorem Mw.parts (h : Mw w0 w wb N E m inv) : ∃ ia il ic ta tc, inv = .slice ia il ic ∧ w.cell? ⟨wb, 4, none⟩ = some (.slice ta m tc) ∧ il ≤ m ∧ m ≤ 300 ∧ (il = m → Lw w0 w wb N E inv) ∧ (il < m → ∃ xs, w.ownsRow 0 3 1 (.slice ia il ic) il xs ∧ ∀ g cap w', w'.ownsRow 0 3 1 (.slice (some ⟨g, 0, none⟩) (il + 1) cap) (il + 1) (xs ++ [.int .i64 0]) → w.grownBy w' (Value.slice ia il ic).ownBlock → ((Value.slice ia il ic).ownBlock = some g ∨ w.heap.size ≤ g) → Mw w0 w' wb N E m (.slice (some ⟨g, 0, none⟩) (il + 1) cap)) := by
  obtain ⟨P, D, lsb, vs, Y, S, cl, ins, hs, hQ, hI, rfl⟩ := h
  obtain ⟨ta, tc, _, h4⟩ := hQ.sees
  obtain ⟨ia, ic, rfl, _⟩ := hQ.seesI
  have hN := hQ.gw.nN
  refine ⟨ia, ins.length, ic, ta, tc, rfl, h4 w (gb_refl _ _), hI.len, by omega, fun e => ⟨P, D, lsb, vs, Y, S, cl, ins, hs, hQ, hI, e⟩, fun hlt => ⟨i64s ins, hQ.row, fun g cap w' hr hg hn => ?_⟩⟩
  refine ⟨_, D, lsb, vs, Y, S, cl, ins ++ [0], hs, hQ.rows hg (inv' := .slice (some ⟨g, 0, none⟩) (ins.length + 1) cap) ?_ (fun k hk => ?_), hI.push hlt, rfl⟩
  · rw [List.length_append, List.length_singleton]
    have e2 : i64s (ins ++ [0]) = i64s ins ++ [.int .i64 0] := by simp [i64s]
    rw [e2]
    exact hr
  · simp [Value.ownBlock] at hk
    subst hk
    exact hn
theorem Lw.makes (h : Lw w0 w wb N E inv) (hN : N < 255) (o : Opv) : Calls Tryz.prog 22 #[.pointer (some ⟨wb, 0, none⟩), .agg o.cs] w fun y w' => y = .returned (.bool true) ∧ ∃ m, Hid (Mw w0 w' wb (N + 1) E m inv) := by
  obtain ⟨P, D, lsb, vs, Y, S, cl, ins, hs, hQ, hI, he⟩ := h
  refine (hQ.makes hI hN o).mono ?_
  rintro y w' ⟨rfl, D', cl', hs', hQ', hI'⟩
  exact ⟨rfl, D'.xt.length, P, D', lsb, vs, Y, S, cl', ins, hs.trans hs', hQ', hI', rfl⟩
theorem Lw.kept0 {w' : World} (h : Lw w0 w wb N E inv) (hf : w.grownBy w' none) : Lw w0 w' wb N E inv := by
  obtain ⟨P, D, lsb, vs, Y, S, cl, ins, hs, hQ, hI, he⟩ := h
  exact ⟨P, D, lsb, vs, Y, S, cl, ins, hs, hQ.kept1 hf, hI, he⟩
end
set_option maxRecDepth 100000 in
set_option maxHeartbeats 8000000 in
theorem queueChains_any {w : World} {a : Option Addr} {n c : Nat} (hO : OpsIn w a n) (hn : n ≤ maxLen) :
    Calls Tryz.prog 5 #[.slice a n c] w fun y w' => y = .returned (.bool true) ∧ w.grownBy w' none := by
  have hbg := (begun_gw w).mono (R' := fun y w1 => ∃ wb E, y = .returned (.pointer (some ⟨wb, 0, none⟩)) ∧ Hid (Lw w w1 wb 0 E (.slice none 0 0))) (by
    rintro y w1 ⟨wb, D, lsb, rfl, hf, hxt, hxl, hA, hG, _⟩
    refine ⟨wb, D, rfl, _, D, lsb, _, _, _, _, [], same_refl D, ⟨hf, hG, fun H hH => by rw [hxt] at hH; simp at hH, World.ownsRow_nil _ _ _ _, fun k hk => hk, fun k hk => Nat.le_trans hf.size hk, fun k hk => by simp [Value.ownBlock] at hk⟩, ⟨by simp, by rw [hxt]; simp, fun k H hk => by rw [hxt] at hk; simp at hk, fun k H hk => by rw [hxt] at hk; simp at hk⟩, by rw [hxt]⟩)
  have hml : (n : Int) ≤ 9223372036854775807 := by unfold maxLen at hn; omega
  clear hn
  go_enter Tryz.func5, Tryz.ntmps5
  go_wp2_with (first | (go_at_call 12; go_must (refine hbg.mono ?_); rintro y w1 ⟨wb, E, rfl, hE⟩) | fail)
  clear hbg
  go_loopw [4, 5] (fun inv iv wr => ∃ i : Nat, i ≤ 250 ∧ iv = .int .i64 i ∧ Hid (Lw w wr wb i E inv)) (fun _ iv _ => 250 - (intOf iv).toNat)
  case atStart => exact ⟨0, by omega, rfl, hE⟩
  case round =>
    obtain ⟨i, hi, rfl, hL⟩ := hrel
    clear hE
    obtain ⟨P, D, lsb, vs, Y, S, cl, ins, hsE, hQ, hI, hlen0⟩ := hL.out
    have HLEN : Hid (ins.length = D.xt.length) := hlen0
    clear hlen0
    obtain ⟨ia, ic, rfl, hin⟩ := hQ.seesI
    obtain ⟨ta, tc, htg, ht4⟩ := hQ.sees
    have hT3 := hQ.gw.nN
    have hgr := hQ.gr
    have hcel := fun W (hf : wr.grownBy W none) => (hQ.kept1 hf).cells
    have e4 : IntKind.i64.wrap ((i : Int) + 1) = (i : Int) + 1 := by rw [IntKind.wrap_i64]; omega
    by_cases hlt : i < n ∧ i < 250
    · obtain ⟨b, o, ha, v, hv, g0, g1, g2, g3, g4, g5⟩ := (hO.kept0 hgr) i hlt.1
      subst ha
      have hd1 : decide ((i : Int) < n) = true := decide_eq_true (by omega)
      have hd2 : decide ((i : Int) < 250) = true := decide_eq_true (by omega)
      have hl1 : (i : Int) < n := by omega
      have hl2 : (i : Int) < 250 := by omega
      have hal := World.grownBy_alloc wr (.cells v.cs 28) none
      have hb0 := Box.new wr 28 v.cs
      have hsz : (wr.alloc (.cells v.cs 28)).heap.size = wr.heap.size + 1 := by simp
      have h22 := (hL.out.kept0 hal).makes (by omega) v
      have hQ1 := hQ.kept0 hal
      have ht41 := ht4 _ hal
      have hst := fun W (hf : (wr.alloc (.cells v.cs 28)).grownBy W none) => (show Hid (Lw w W wb (i + 1) E (.slice ia ins.length ic)) from ((hL.out.kept0 hal).kept0 hf).more (by omega) (by omega))
      unfold Opv.cs at h22 hb0 hal hsz hQ1 ht41 hst
      obtain ⟨d0, a0, b0, c0v, h0v, r0⟩ := v
      dsimp only at *
      have u0 := hb0.cell 0
      have u1 := hb0.cell 1
      have u2 := hb0.cell 2
      have u3 := hb0.cell 3
      have u4 := hb0.cell 4
      have u5 := hb0.cell 5
      simp at u0 u1 u2 u3 u4 u5
      have HB0 : Hid (Box (wr.alloc (.cells #[.int .i64 d0, .int .i64 a0, .int .i64 b0, .int .i64 c0v, .int .u64 h0v, .bool r0] 28)) 28 wr.heap.size #[.int .i64 d0, .int .i64 a0, .int .i64 b0, .int .i64 c0v, .int .u64 h0v, .bool r0]) := hb0
      have HAL : Hid (wr.grownBy (wr.alloc (.cells #[.int .i64 d0, .int .i64 a0, .int .i64 b0, .int .i64 c0v, .int .u64 h0v, .bool r0] 28)) none) := hal
      have hfin0 := hst _ (gb_refl _ _)
      clear hO hb0 hal ht4 hgr
      by_cases e8 : r0 = true ∨ 8 ≤ d0
      · clear h22 hQ1 hQ hin htg hcel hst ht41
        rcases e8 with rfl | e8
        · go_wp2
          exact ⟨⟨i + 1, by omega, by go_num, hfin0⟩, by simp [intOf]; omega⟩
        · have d8 : decide (d0 ≥ 8) = true := decide_eq_true (by omega)
          cases r0
          · go_wp2
            exact ⟨⟨i + 1, by omega, by go_num, hfin0⟩, by simp [intOf]; omega⟩
          · go_wp2
            exact ⟨⟨i + 1, by omega, by go_num, hfin0⟩, by simp [intOf]; omega⟩
      · obtain rfl : r0 = false := by cases r0 <;> simp at e8 ⊢
        have d8 : decide (d0 ≥ 8) = false := decide_eq_false (by omega)
        by_cases e12 : d0 = 1 ∨ d0 = 2
        · clear hQ1 hQ hin htg hcel hst ht41
          rcases e12 with rfl | rfl
          · go_wp2_with (first | (go_at_call 22; go_must (refine h22.mono ?_); rintro y w2 ⟨rfl, m, hM2⟩) | fail)
            clear h22 hfin0
            go_loopw [4] (fun inv wq => Hid (Mw w wq wb (i + 1) E m inv)) (fun inv _ => m - lenOf (some inv))
            case atStart => exact hM2
            case round =>
              obtain ⟨ia2, il2, ic2, ta2, tc2, rfl, k4, hle, hm3, hdone, hmore⟩ := hrel.out.parts
              clear hrel hM2
              by_cases hlt2 : il2 < m
              · obtain ⟨xs2, hrow2, hnext⟩ := hmore hlt2
                have f1 : decide ((il2 : Int) < m) = true := decide_eq_true (by omega)
                have f2 : (il2 : Int) < m := by omega
                clear hmore hdone
                go_wp2_with (at_builtin; go_must (refine push3 rfl _ _ rfl 0 (.slice ia2 il2 ic2) il2 xs2 (by rfl) hrow2 0 (by rfl) (by omega) (Nat.zero_le _) ?_); intro g1 cap1 w4 ho4 hg4 hat4)
                exact ⟨hnext g1 cap1 w4 ho4 hg4 hat4, by simp only [lenOf]; omega⟩
              · have hd := hdone (by omega)
                have f1 : decide ((il2 : Int) < m) = false := decide_eq_false (by omega)
                clear hmore hdone
                go_wp2
                exact ⟨⟨i + 1, by omega, by go_num, hd⟩, by simp [intOf]; omega⟩
          · go_wp2_with (first | (go_at_call 22; go_must (refine h22.mono ?_); rintro y w2 ⟨rfl, m, hM2⟩) | fail)
            clear h22 hfin0
            go_loopw [4] (fun inv wq => Hid (Mw w wq wb (i + 1) E m inv)) (fun inv _ => m - lenOf (some inv))
            case atStart => exact hM2
            case round =>
              obtain ⟨ia2, il2, ic2, ta2, tc2, rfl, k4, hle, hm3, hdone, hmore⟩ := hrel.out.parts
              clear hrel hM2
              by_cases hlt2 : il2 < m
              · obtain ⟨xs2, hrow2, hnext⟩ := hmore hlt2
                have f1 : decide ((il2 : Int) < m) = true := decide_eq_true (by omega)
                have f2 : (il2 : Int) < m := by omega
                clear hmore hdone
                go_wp2_with (at_builtin; go_must (refine push3 rfl _ _ rfl 0 (.slice ia2 il2 ic2) il2 xs2 (by rfl) hrow2 0 (by rfl) (by omega) (Nat.zero_le _) ?_); intro g1 cap1 w4 ho4 hg4 hat4)
                exact ⟨hnext g1 cap1 w4 ho4 hg4 hat4, by simp only [lenOf]; omega⟩
              · have hd := hdone (by omega)
                have f1 : decide ((il2 : Int) < m) = false := decide_eq_false (by omega)
                clear hmore hdone
                go_wp2
                exact ⟨⟨i + 1, by omega, by go_num, hd⟩, by simp [intOf]; omega⟩
        · have e1 : ¬ d0 = 1 := fun e => e12 (.inl e)
          have e2 : ¬ d0 = 2 := fun e => e12 (.inr e)
          have d1 : (d0 == 1) = false := by simpa using e1
          have d2 : (d0 == 2) = false := by simpa using e2
          clear h22 e12
          by_cases e30 : D.xt.length = 0 ∨ d0 = 3
          · clear hQ1 hQ hin htg hcel hst
            have f0 : D.xt.length = 0 → (D.xt.length : Int) = 0 := by omega
            rcases e30 with e0 | e3
            · have f1 : (D.xt.length : Int) = 0 := by omega
              rw [e0] at ht41
              clear f0 f1 hT3 e0
              go_wp2
              exact ⟨⟨i + 1, by omega, by go_num, hfin0⟩, by simp [intOf]; omega⟩
            · subst e3
              by_cases e0 : D.xt.length = 0
              · rw [e0] at ht41
                clear f0 hT3 e0
                go_wp2
                exact ⟨⟨i + 1, by omega, by go_num, hfin0⟩, by simp [intOf]; omega⟩
              · have f1 : ¬ (D.xt.length : Int) = 0 := by omega
                have f2 : ((D.xt.length : Int) == 0) = false := by simpa using f1
                go_wp2
                exact ⟨⟨i + 1, by omega, by go_num, hfin0⟩, by simp [intOf]; omega⟩
          · have e0 : 0 < D.xt.length := by omega
            have e3 : ¬ d0 = 3 := by omega
            have d3 : (d0 == 3) = false := by simpa using e3
            have f1 : ¬ (D.xt.length : Int) = 0 := by omega
            have f2 : ((D.xt.length : Int) == 0) = false := by simpa using f1
            obtain ⟨tg, rfl, htd⟩ := htg e0
            obtain ⟨ig, rfl, hid⟩ := hin (by have := HLEN.out; omega)
            -- which handle
            obtain ⟨ki, hki⟩ : ∃ ki : Nat, a0 % (D.xt.length : Int) = (ki : Int) := ⟨(a0 % (D.xt.length : Int)).toNat, by have := Int.emod_nonneg a0 (show (D.xt.length : Int) ≠ 0 by omega); omega⟩
            have hkl : ki < D.xt.length := by have := Int.emod_lt_of_pos a0 (show (0 : Int) < D.xt.length by omega); omega
            obtain ⟨H, hH⟩ : ∃ H, D.xt[ki]? = some H := ⟨D.xt[ki], List.getElem?_eq_getElem hkl⟩
            have h64 := hQ.gw.tb H (List.mem_of_getElem? hH)
            obtain ⟨k2, hk2⟩ : ∃ k2 : Nat, b0 % 3 = (k2 : Int) := ⟨(b0 % 3).toNat, by omega⟩
            have hk23 : k2 < 3 := by omega
            have hwa := fun W => within_any a0 (D.xt.length : Int) (by omega) (by omega) W
            have hwb := fun W => within_any b0 3 (by omega) (by omega) W
            rw [hki] at hwa
            rw [hk2] at hwb
            have e5 : IntKind.i64.wrap (1 + (k2 : Int)) = (k2 : Int) + 1 := by rw [IntKind.wrap_i64]; omega
            obtain ⟨j, hj, hj3, hj0, hj1⟩ := hI.at' ki H hH (by have := HLEN.out; omega)
            have hlt1 := hQ.lt
            have hjx : j ≠ 0 → (∃ c k, H ∈ S c k) ∧ H ∈ D.xl := fun hne => by
              obtain ⟨c, hc⟩ := hj1 (j - 1) (by omega)
              exact ⟨⟨c, _, hc⟩, (hlt1.sub c _ H hc).1⟩
            have hjn : j = 0 → ∀ c k, H ∉ S c k := hj0
            have HJ : Hid (ins[ki]? = some j) := hj
            have HH : Hid (D.xt[ki]? = some H) := hH
            have HBO : Hid (¬ (P wr.heap.size ∧ (wr.heap.size < wr.heap.size ∨ (wr.alloc (.cells #[.int .i64 d0, .int .i64 a0, .int .i64 b0, .int .i64 c0v, .int .u64 h0v, .bool false] 28)).heap.size ≤ wr.heap.size))) := by
              show ¬ _
              rw [hsz]
              omega
            have l3 : ¬ (ki : Int) < 0 := by omega
            have l4 : (ki : Int) < D.xt.length := by omega
            have l5 : (ki : Int) < ins.length := by have := HLEN.out; omega
            have hk1 : (wr.alloc (.cells #[.int .i64 d0, .int .i64 a0, .int .i64 b0, .int .i64 c0v, .int .u64 h0v, .bool false] 28)).cell? ⟨wr.heap.size, 1, none⟩ = some (.int .i64 a0) ∧ (wr.alloc (.cells #[.int .i64 d0, .int .i64 a0, .int .i64 b0, .int .i64 c0v, .int .u64 h0v, .bool false] 28)).cell? ⟨wb, 4, none⟩ = some (.slice (some ⟨tg, 0, none⟩) D.xt.length tc) := ⟨HB0.out.cell 1, ht41⟩
            have hQ1' : Hid (Qa w (wr.alloc (.cells #[.int .i64 d0, .int .i64 a0, .int .i64 b0, .int .i64 c0v, .int .u64 h0v, .bool false] 28)) (fun k => P k ∧ (k < wr.heap.size ∨ (wr.alloc (.cells #[.int .i64 d0, .int .i64 a0, .int .i64 b0, .int .i64 c0v, .int .u64 h0v, .bool false] 28)).heap.size ≤ k)) wb i D lsb vs Y S cl ins (.slice (some ⟨ig, 0, none⟩) ins.length ic)) := hQ1
            have HI : Hid (InP D.xt S ins) := hI
            have HS : Hid (SameP E D) := hsE
            have hi3 : i < 300 := by omega
            clear hQ1 hQ hI hj hH hj0 hj1 hlt1 hT3 hsE hst hfin0 hki hk2 hin htg hL hsz e30
            generalize hPP : (fun k => P k ∧ (k < wr.heap.size ∨ (wr.alloc (.cells #[.int .i64 d0, .int .i64 a0, .int .i64 b0, .int .i64 c0v, .int .u64 h0v, .bool false] 28)).heap.size ≤ k)) = P1 at hQ1'
            have hbo : Hid (¬ P1 wr.heap.size) := by rw [← hPP]; exact HBO.out
            clear hPP HBO
            have hW1s : ∀ W, (wr.alloc (.cells #[.int .i64 d0, .int .i64 a0, .int .i64 b0, .int .i64 c0v, .int .u64 h0v, .bool false] 28)).grownBy W none → (W.cell? ⟨wr.heap.size, 1, none⟩ = some (.int .i64 a0) ∧ W.cell? ⟨wb, 4, none⟩ = some (.slice (some ⟨tg, 0, none⟩) D.xt.length tc)) ∧ W.cell? ⟨tg, ki, none⟩ = some (.int .u64 (H : Nat)) ∧ Cells W wb D ∧ Box W 28 wr.heap.size #[.int .i64 d0, .int .i64 a0, .int .i64 b0, .int .i64 c0v, .int .u64 h0v, .bool false] := fun W hf => ⟨⟨gb_cellN hf hk1.1, gb_cellN hf hk1.2⟩, htd W (gb_trans HAL.out hf) ki H HH.out, hcel W (gb_trans HAL.out hf), HB0.out.kept hf (by simp)⟩
            clear htd hcel hid hk1 HB0 HAL
            go_wp2
            generalize wr.alloc (.cells #[.int .i64 d0, .int .i64 a0, .int .i64 b0, .int .i64 c0v, .int .u64 h0v, .bool false] 28) = W1 at *
            obtain ⟨hk0, hk2, hk3, hk4⟩ := hW1s W1.drew (gb_drew (gb_refl _ _))
            go_region_held3 (fun W => W.cell? ⟨wr.heap.size, 1, none⟩ = some (.int .i64 a0) ∧ W.cell? ⟨wb, 4, none⟩ = some (.slice (some ⟨tg, 0, none⟩) D.xt.length tc)) ((first | with_reducible exact hk0 | go_keep)) ((first | (go_at_call 18; with_reducible refine (hwa _).mono ?_; rintro y w' ⟨rfl, rfl⟩)))
            obtain ⟨p0, p1, p2, p3⟩ := hk3
            obtain ⟨q1, q4⟩ := hk0
            have u2 := hk4.cell 2
            have u0 := hk4.cell 0
            simp only [List.getElem?_toArray, List.getElem?_cons_zero, List.getElem?_cons_succ] at u0 u2
            have hQ5 := hQ1'.out.kept1 (gb_drew (gb_refl W1 none))
            have HQ5 : Hid (Qa w W1.drew P1 wb i D lsb vs Y S cl ins (.slice (some ⟨ig, 0, none⟩) ins.length ic)) := hQ5
            have HB5 : Hid (Box W1.drew 28 wr.heap.size #[.int .i64 d0, .int .i64 a0, .int .i64 b0, .int .i64 c0v, .int .u64 h0v, .bool false]) := hk4
            clear hQ5 hQ1' hW1s hwa hk4 ht41
            by_cases c4 : d0 = 4
            · as_aux_lemma =>
              subst c4
              obtain ⟨er, her, hcall⟩ := HQ5.out.pc (HQ5.out.gw.cpush (by omega) h64 hk23)
              have hcl := hcall.mono (R' := fun y w6 => y = .returned (.int .i64 er) ∧ ∃ D' S' tg6 tc6, Hid (Mv D D' 0 ∧ Mem S S' er H (some (cl H, k2)) ∧ Qa w w6 P1 wb (i + 1) D' lsb vs Y S' cl ins (.slice (some ⟨ig, 0, none⟩) ins.length ic)) ∧ Hid (∀ W, w6.grownBy W none → Calls Tryz.prog 27 #[.pointer (some ⟨D.lb, 0, none⟩), .int .u64 H] W fun y w' => y = .returned (.bool (decide (H ∈ D.xl))) ∧ W.grownBy w' none) ∧ Hid (∀ W, w6.grownBy W none → (W.cell? ⟨wb, 3, none⟩ = some (.pointer (some ⟨D.lb, 0, none⟩)) ∧ W.cell? ⟨wb, 4, none⟩ = some (.slice (some ⟨tg6, 0, none⟩) D.xt.length tc6) ∧ W.cell? ⟨tg6, ki, none⟩ = some (.int .u64 (H : Nat)) ∧ W.cell? ⟨ig, ki, none⟩ = some (.int .i64 (j : Nat)) ∧ W.cell? ⟨wr.heap.size, 0, none⟩ = some (.int .i64 4)) ∧ W.frozen? ⟨ig, ki, none⟩ = false)) (by
                rintro y w6 ⟨rfl, hK6, D', S', hmv, hme, hQ6⟩
                obtain ⟨tg6, tc6, hl⟩ := hQ6.look hmv HH.out HJ.out (hK6.box HB5.out hbo.out) rfl
                exact ⟨rfl, D', S', tg6, tc6, ⟨hmv, hme, hQ6⟩, hQ6.isL hmv H, hl⟩)
              clear hcall
              go_wp2_with (first | (go_at_call 18; go_must (refine (hwb _).mono ?_); rintro y w' ⟨rfl, rfl⟩) | (go_at_call 23; go_must (with_reducible refine hcl.mono ?_); rintro y w6 ⟨rfl, D', S', tg6, tc6, HQ6, HIs, HLk⟩) | (go_at_call 16; go_must (refine (num_any _ _).mono ?_); rintro y w' ⟨rfl, rfl⟩) | fail)
              clear hcl u0 u2 p0 p1 p2 p3 q1 q4 hk2 hwb
              by_cases hm : H ∈ D.xl
              · have hIsT := fun W hW => by have := HIs.out W hW; rw [decide_eq_true hm] at this; exact this
                by_cases e : j = 0
                · have ej : ((j : Int) == 0) = true := by simp [e]
                  have he0 : er = 0 := her.2 (⟨hm, hjn e⟩)
                  have HE0 : Hid (er = 0) := he0
                  have he1 : (er == 0) = true := by simpa using he0
                  clear he0 her hjx hjn e
                  refine wp_region_noPanic ?_
                  refine wp_region_held_drew (S := fun W : World => w6.grownBy W none) (by kernel_rfl) (gb_drew (gb_refl w6 none)) (fun hgA => ?_)
                  generalize w6.drew = Wd at hgA ⊢
                  refine wpAnyH_take (i := 0) (oi := { dst := some 128, op := Op.move (Operand.tmp 3), type := 23, pos := _, after := #[], guard := none }) (v := ?_) rfl (by kernel_rfl) (by kernel_rfl) (by kernel_rfl) (fun _ _ _ h => h) (Or.inl ⟨by rfl, ?_⟩) (by first | trivial | assumption) ?_
                  rotate_left 1
                  · (intro W hSw; go_simp; (try (with_reducible rfl)))
                  try simp only [Act.put, List.setIfInBounds_toArray, List.set_cons_zero, List.set_cons_succ]
                  refine wpAnyH_take (i := 1) (oi := { dst := some 129, op := Op.nilCheck (Operand.tmp 128), type := 0, pos := _, after := #[{ on := 0, ground := Ground.data }], guard := none }) (v := ?_) rfl (by kernel_rfl) (by kernel_rfl) (by kernel_rfl) (fun _ _ _ h => h) (Or.inl ⟨by rfl, ?_⟩) (by first | trivial | assumption) ?_
                  rotate_left 1
                  · (intro W hSw; go_simp; (try (with_reducible rfl)))
                  try simp only [Act.put, List.setIfInBounds_toArray, List.set_cons_zero, List.set_cons_succ]
                  refine wpAnyH_take (i := 2) (oi := { dst := some 130, op := Op.fieldAddr 47 (Operand.tmp 129) 3, type := 0, pos := _, after := #[{ on := 1, ground := Ground.data }], guard := none }) (v := ?_) rfl (by kernel_rfl) (by kernel_rfl) (by kernel_rfl) (fun _ _ _ h => h) (Or.inl ⟨by rfl, ?_⟩) (by first | trivial | assumption) ?_
                  rotate_left 1
                  · (intro W hSw; go_simp; (try (with_reducible rfl)))
                  try simp only [Act.put, List.setIfInBounds_toArray, List.set_cons_zero, List.set_cons_succ]
                  refine wpAnyH_take (i := 3) (oi := { dst := some 131, op := Op.load 44 (Operand.tmp 130), type := 44, pos := _, after := #[{ on := 2, ground := Ground.data }], guard := none }) (v := ?_) rfl (by kernel_rfl) (by kernel_rfl) (by kernel_rfl) (fun _ _ _ h => h) (Or.inl ⟨by rfl, ?_⟩) (by first | trivial | assumption) ?_
                  rotate_left 1
                  · (intro W hSw; obtain ⟨⟨y0, y1, y2, y3, y4⟩, _⟩ := HLk.out W hSw; go_simp; (try (with_reducible rfl)))
                  try simp only [Act.put, List.setIfInBounds_toArray, List.set_cons_zero, List.set_cons_succ]
                  refine wpAnyH_take (i := 4) (oi := { dst := some 132, op := Op.move (Operand.tmp 3), type := 23, pos := _, after := #[], guard := none }) (v := ?_) rfl (by kernel_rfl) (by kernel_rfl) (by kernel_rfl) (fun _ _ _ h => h) (Or.inl ⟨by rfl, ?_⟩) (by first | trivial | assumption) ?_
                  rotate_left 1
                  · (intro W hSw; go_simp; (try (with_reducible rfl)))
                  try simp only [Act.put, List.setIfInBounds_toArray, List.set_cons_zero, List.set_cons_succ]
                  refine wpAnyH_take (i := 5) (oi := { dst := some 133, op := Op.nilCheck (Operand.tmp 132), type := 0, pos := _, after := #[{ on := 4, ground := Ground.data }], guard := none }) (v := ?_) rfl (by kernel_rfl) (by kernel_rfl) (by kernel_rfl) (fun _ _ _ h => h) (Or.inl ⟨by rfl, ?_⟩) (by first | trivial | assumption) ?_
                  rotate_left 1
                  · (intro W hSw; go_simp; (try (with_reducible rfl)))
                  try simp only [Act.put, List.setIfInBounds_toArray, List.set_cons_zero, List.set_cons_succ]
                  refine wpAnyH_take (i := 6) (oi := { dst := some 134, op := Op.fieldAddr 47 (Operand.tmp 133) 4, type := 0, pos := _, after := #[{ on := 5, ground := Ground.data }], guard := none }) (v := ?_) rfl (by kernel_rfl) (by kernel_rfl) (by kernel_rfl) (fun _ _ _ h => h) (Or.inl ⟨by rfl, ?_⟩) (by first | trivial | assumption) ?_
                  rotate_left 1
                  · (intro W hSw; go_simp; (try (with_reducible rfl)))
                  try simp only [Act.put, List.setIfInBounds_toArray, List.set_cons_zero, List.set_cons_succ]
                  refine wpAnyH_take (i := 7) (oi := { dst := some 135, op := Op.load 45 (Operand.tmp 134), type := 45, pos := _, after := #[{ on := 6, ground := Ground.data }], guard := none }) (v := ?_) rfl (by kernel_rfl) (by kernel_rfl) (by kernel_rfl) (fun _ _ _ h => h) (Or.inl ⟨by rfl, ?_⟩) (by first | trivial | assumption) ?_
                  rotate_left 1
                  · (intro W hSw; obtain ⟨⟨y0, y1, y2, y3, y4⟩, _⟩ := HLk.out W hSw; go_simp; (try (with_reducible rfl)))
                  try simp only [Act.put, List.setIfInBounds_toArray, List.set_cons_zero, List.set_cons_succ]
                  refine wpAnyH_take (i := 8) (oi := { dst := some 136, op := Op.move (Operand.tmp 7), type := 3, pos := _, after := #[], guard := none }) (v := ?_) rfl (by kernel_rfl) (by kernel_rfl) (by kernel_rfl) (fun _ _ _ h => h) (Or.inl ⟨by rfl, ?_⟩) (by first | trivial | assumption) ?_
                  rotate_left 1
                  · (intro W hSw; go_simp; (try (with_reducible rfl)))
                  try simp only [Act.put, List.setIfInBounds_toArray, List.set_cons_zero, List.set_cons_succ]
                  refine wpAnyH_take (i := 9) (oi := { dst := some 137, op := Op.indexAddr 45 (Operand.tmp 135) (Operand.tmp 136), type := 0, pos := _, after := #[{ on := 7, ground := Ground.data }, { on := 8, ground := Ground.data }], guard := none }) (v := ?_) rfl (by kernel_rfl) (by kernel_rfl) (by kernel_rfl) (fun _ _ _ h => h) (Or.inl ⟨by rfl, ?_⟩) (by first | trivial | assumption) ?_
                  rotate_left 1
                  · (intro W hSw; go_simp; (try (with_reducible rfl)))
                  try simp only [Act.put, List.setIfInBounds_toArray, List.set_cons_zero, List.set_cons_succ]
                  refine wpAnyH_take (i := 10) (oi := { dst := some 138, op := Op.load 26 (Operand.tmp 137), type := 26, pos := _, after := #[{ on := 9, ground := Ground.data }], guard := none }) (v := ?_) rfl (by kernel_rfl) (by kernel_rfl) (by kernel_rfl) (fun _ _ _ h => h) (Or.inl ⟨by rfl, ?_⟩) (by first | trivial | assumption) ?_
                  rotate_left 1
                  · (intro W hSw; obtain ⟨⟨y0, y1, y2, y3, y4⟩, _⟩ := HLk.out W hSw; go_simp; (try (with_reducible rfl)))
                  try simp only [Act.put, List.setIfInBounds_toArray, List.set_cons_zero, List.set_cons_succ]
                  refine wpAnyH_ready (rs := [11]) (by kernel_rfl) (by simp) ?_
                  refine (AllReadyH.cons rfl (fun K hK => ?_) AllReadyH.nil)
                  go_simp
                  (with_reducible refine (hIsT Wd hgA).mono ?_)
                  rintro e w7 ⟨rfl, hgn⟩
                  have hf7 := gb_trans hgA hgn
                  clear hgn
                  refine hK.out _ _ hf7 (fun hS => ?_)
                  clear hK K hS
                  try simp only [Act.put, List.setIfInBounds_toArray, List.set_cons_zero, List.set_cons_succ]
                  refine wpAnyH_take (i := 12) (oi := { dst := some 140, op := Op.move (Operand.tmp 139), type := 4, pos := _, after := #[{ on := 11, ground := Ground.data }, { on := 11, ground := Ground.chain }], guard := none }) (v := ?_) rfl (by kernel_rfl) (by kernel_rfl) (by kernel_rfl) (fun _ _ _ h => h) (Or.inl ⟨by rfl, ?_⟩) (by first | trivial | assumption) ?_
                  rotate_left 1
                  · (intro W hSw; go_simp; (try (with_reducible rfl)))
                  try simp only [Act.put, List.setIfInBounds_toArray, List.set_cons_zero, List.set_cons_succ]
                  refine wpAnyH_take (i := 13) (oi := { dst := some 141, op := Op.move (Operand.tmp 4), type := 55, pos := _, after := #[{ on := 12, ground := Ground.guard }], guard := some (12, true) }) (v := ?_) rfl (by kernel_rfl) (by kernel_rfl) (by kernel_rfl) (fun _ _ _ h => h) (Or.inl ⟨by rfl, ?_⟩) (by first | trivial | assumption) ?_
                  rotate_left 1
                  · (intro W hSw; go_simp; (try (with_reducible rfl)))
                  try simp only [Act.put, List.setIfInBounds_toArray, List.set_cons_zero, List.set_cons_succ]
                  refine wpAnyH_take (i := 14) (oi := { dst := some 142, op := Op.move (Operand.tmp 7), type := 3, pos := _, after := #[{ on := 12, ground := Ground.guard }], guard := some (12, true) }) (v := ?_) rfl (by kernel_rfl) (by kernel_rfl) (by kernel_rfl) (fun _ _ _ h => h) (Or.inl ⟨by rfl, ?_⟩) (by first | trivial | assumption) ?_
                  rotate_left 1
                  · (intro W hSw; go_simp; (try (with_reducible rfl)))
                  try simp only [Act.put, List.setIfInBounds_toArray, List.set_cons_zero, List.set_cons_succ]
                  refine wpAnyH_take (i := 15) (oi := { dst := some 143, op := Op.indexAddr 55 (Operand.tmp 141) (Operand.tmp 142), type := 0, pos := _, after := #[{ on := 13, ground := Ground.data }, { on := 14, ground := Ground.data }, { on := 12, ground := Ground.guard }], guard := some (12, true) }) (v := ?_) rfl (by kernel_rfl) (by kernel_rfl) (by kernel_rfl) (fun _ _ _ h => h) (Or.inl ⟨by rfl, ?_⟩) (by first | trivial | assumption) ?_
                  rotate_left 1
                  · (intro W hSw; go_simp; (try (with_reducible rfl)))
                  try simp only [Act.put, List.setIfInBounds_toArray, List.set_cons_zero, List.set_cons_succ]
                  refine wpAnyH_take (i := 16) (oi := { dst := some 144, op := Op.load 3 (Operand.tmp 143), type := 3, pos := _, after := #[{ on := 15, ground := Ground.data }, { on := 12, ground := Ground.guard }], guard := some (12, true) }) (v := ?_) rfl (by kernel_rfl) (by kernel_rfl) (by kernel_rfl) (fun _ _ _ h => h) (Or.inl ⟨by rfl, ?_⟩) (by first | trivial | assumption) ?_
                  rotate_left 1
                  · (intro W hSw; obtain ⟨⟨y0, y1, y2, y3, y4⟩, _⟩ := HLk.out W hSw; go_simp; (try (with_reducible rfl)))
                  try simp only [Act.put, List.setIfInBounds_toArray, List.set_cons_zero, List.set_cons_succ]
                  refine wpAnyH_take (i := 17) (oi := { dst := some 145, op := Op.binOp BinOp.eql 3 (Operand.tmp 144) (Operand.const (Value.int IntKind.i64 0)) 3, type := 4, pos := _, after := #[{ on := 16, ground := Ground.data }, { on := 12, ground := Ground.guard }], guard := some (12, true) }) (v := ?_) rfl (by kernel_rfl) (by kernel_rfl) (by kernel_rfl) (fun _ _ _ h => h) (Or.inl ⟨by rfl, ?_⟩) (by first | trivial | assumption) ?_
                  rotate_left 1
                  · (intro W hSw; go_simp; (try (with_reducible rfl)))
                  try simp only [Act.put, List.setIfInBounds_toArray, List.set_cons_zero, List.set_cons_succ]
                  refine wpAnyH_take (i := 18) (oi := { dst := some 146, op := Op.fieldAddr 28 (Operand.tmp 6) 0, type := 0, pos := _, after := #[{ on := 12, ground := Ground.guard }], guard := some (12, true) }) (v := ?_) rfl (by kernel_rfl) (by kernel_rfl) (by kernel_rfl) (fun _ _ _ h => h) (Or.inl ⟨by rfl, ?_⟩) (by first | trivial | assumption) ?_
                  rotate_left 1
                  · (intro W hSw; go_simp; (try (with_reducible rfl)))
                  try simp only [Act.put, List.setIfInBounds_toArray, List.set_cons_zero, List.set_cons_succ]
                  refine wpAnyH_take (i := 19) (oi := { dst := some 147, op := Op.load 3 (Operand.tmp 146), type := 3, pos := _, after := #[{ on := 18, ground := Ground.data }, { on := 12, ground := Ground.guard }], guard := some (12, true) }) (v := ?_) rfl (by kernel_rfl) (by kernel_rfl) (by kernel_rfl) (fun _ _ _ h => h) (Or.inl ⟨by rfl, ?_⟩) (by first | trivial | assumption) ?_
                  rotate_left 1
                  · (intro W hSw; obtain ⟨⟨y0, y1, y2, y3, y4⟩, _⟩ := HLk.out W hSw; go_simp; (try (with_reducible rfl)))
                  try simp only [Act.put, List.setIfInBounds_toArray, List.set_cons_zero, List.set_cons_succ]
                  refine wpAnyH_take (i := 20) (oi := { dst := some 148, op := Op.binOp BinOp.eql 3 (Operand.tmp 147) (Operand.const (Value.int IntKind.i64 4)) 3, type := 4, pos := _, after := #[{ on := 19, ground := Ground.data }, { on := 12, ground := Ground.guard }], guard := some (12, true) }) (v := ?_) rfl (by kernel_rfl) (by kernel_rfl) (by kernel_rfl) (fun _ _ _ h => h) (Or.inl ⟨by rfl, ?_⟩) (by first | trivial | assumption) ?_
                  rotate_left 1
                  · (intro W hSw; go_simp; (try (with_reducible rfl)))
                  try simp only [Act.put, List.setIfInBounds_toArray, List.set_cons_zero, List.set_cons_succ]
                  refine wpAnyH_take (i := 21) (oi := { dst := some 149, op := Op.move (Operand.tmp 148), type := 4, pos := _, after := #[{ on := 20, ground := Ground.data }, { on := 12, ground := Ground.chain }, { on := 12, ground := Ground.guard }], guard := some (12, true) }) (v := ?_) rfl (by kernel_rfl) (by kernel_rfl) (by kernel_rfl) (fun _ _ _ h => h) (Or.inl ⟨by rfl, ?_⟩) (by first | trivial | assumption) ?_
                  rotate_left 1
                  · (intro W hSw; go_simp; (try (with_reducible rfl)))
                  try simp only [Act.put, List.setIfInBounds_toArray, List.set_cons_zero, List.set_cons_succ]
                  refine wpAnyH_take (i := 22) (oi := { dst := some 150, op := Op.fieldAddr 28 (Operand.tmp 6) 0, type := 0, pos := _, after := #[{ on := 21, ground := Ground.guard }], guard := some (21, false) }) (v := undef) rfl (by kernel_rfl) (by kernel_rfl) (by kernel_rfl) (fun _ _ _ h => h) (Or.inr ⟨by rfl, rfl⟩) (by first | trivial | assumption) ?_
                  try simp only [Act.put, List.setIfInBounds_toArray, List.set_cons_zero, List.set_cons_succ]
                  refine wpAnyH_take (i := 23) (oi := { dst := some 151, op := Op.load 3 (Operand.tmp 150), type := 3, pos := _, after := #[{ on := 22, ground := Ground.data }, { on := 21, ground := Ground.guard }], guard := some (21, false) }) (v := undef) rfl (by kernel_rfl) (by kernel_rfl) (by kernel_rfl) (fun _ _ _ h => h) (Or.inr ⟨by rfl, rfl⟩) (by first | trivial | assumption) ?_
                  try simp only [Act.put, List.setIfInBounds_toArray, List.set_cons_zero, List.set_cons_succ]
                  refine wpAnyH_take (i := 24) (oi := { dst := some 152, op := Op.binOp BinOp.eql 3 (Operand.tmp 151) (Operand.const (Value.int IntKind.i64 5)) 3, type := 4, pos := _, after := #[{ on := 23, ground := Ground.data }, { on := 21, ground := Ground.guard }], guard := some (21, false) }) (v := undef) rfl (by kernel_rfl) (by kernel_rfl) (by kernel_rfl) (fun _ _ _ h => h) (Or.inr ⟨by rfl, rfl⟩) (by first | trivial | assumption) ?_
                  try simp only [Act.put, List.setIfInBounds_toArray, List.set_cons_zero, List.set_cons_succ]
                  refine wpAnyH_take (i := 25) (oi := { dst := some 153, op := Op.pick (Operand.tmp 149) (Operand.const (Value.bool true)) (Operand.tmp 152), type := 4, pos := _, after := #[{ on := 21, ground := Ground.data }, { on := 24, ground := Ground.data }, { on := 12, ground := Ground.guard }], guard := some (12, true) }) (v := ?_) rfl (by kernel_rfl) (by kernel_rfl) (by kernel_rfl) (fun _ _ _ h => h) (Or.inl ⟨by rfl, ?_⟩) (by first | trivial | assumption) ?_
                  rotate_left 1
                  · (intro W hSw; go_simp; (try (with_reducible rfl)))
                  try simp only [Act.put, List.setIfInBounds_toArray, List.set_cons_zero, List.set_cons_succ]
                  refine wpAnyH_take (i := 26) (oi := { dst := some 154, op := Op.binOp BinOp.eql 4 (Operand.tmp 145) (Operand.tmp 153) 4, type := 4, pos := _, after := #[{ on := 17, ground := Ground.data }, { on := 25, ground := Ground.data }, { on := 12, ground := Ground.guard }], guard := some (12, true) }) (v := ?_) rfl (by kernel_rfl) (by kernel_rfl) (by kernel_rfl) (fun _ _ _ h => h) (Or.inl ⟨by rfl, ?_⟩) (by first | trivial | assumption) ?_
                  rotate_left 1
                  · (intro W hSw; go_simp; (try (with_reducible rfl)))
                  try simp only [Act.put, List.setIfInBounds_toArray, List.set_cons_zero, List.set_cons_succ]
                  refine wpAnyH_take (i := 27) (oi := { dst := some 155, op := Op.pick (Operand.tmp 140) (Operand.tmp 154) (Operand.const (Value.bool false)), type := 4, pos := _, after := #[{ on := 12, ground := Ground.data }, { on := 26, ground := Ground.data }], guard := none }) (v := ?_) rfl (by kernel_rfl) (by kernel_rfl) (by kernel_rfl) (fun _ _ _ h => h) (Or.inl ⟨by rfl, ?_⟩) (by first | trivial | assumption) ?_
                  rotate_left 1
                  · (intro W hSw; go_simp; (try (with_reducible rfl)))
                  try simp only [Act.put, List.setIfInBounds_toArray, List.set_cons_zero, List.set_cons_succ]
                  refine wpAnyH_take (i := 28) (oi := { dst := some 11, op := Op.assign (Operand.tmp 155), type := 4, pos := _, after := #[{ on := 27, ground := Ground.data }, { on := 21, ground := Ground.chain }, { on := 0, ground := Ground.phase }, { on := 1, ground := Ground.phase }, { on := 2, ground := Ground.phase }, { on := 3, ground := Ground.phase }, { on := 4, ground := Ground.phase }, { on := 5, ground := Ground.phase }, { on := 6, ground := Ground.phase }, { on := 7, ground := Ground.phase }, { on := 8, ground := Ground.phase }, { on := 9, ground := Ground.phase }, { on := 10, ground := Ground.phase }, { on := 11, ground := Ground.phase }, { on := 12, ground := Ground.phase }, { on := 13, ground := Ground.phase }, { on := 14, ground := Ground.phase }, { on := 15, ground := Ground.phase }, { on := 16, ground := Ground.phase }, { on := 17, ground := Ground.phase }, { on := 18, ground := Ground.phase }, { on := 19, ground := Ground.phase }, { on := 20, ground := Ground.phase }, { on := 21, ground := Ground.phase }, { on := 22, ground := Ground.phase }, { on := 23, ground := Ground.phase }, { on := 24, ground := Ground.phase }, { on := 25, ground := Ground.phase }, { on := 26, ground := Ground.phase }, { on := 27, ground := Ground.phase }], guard := none }) (v := ?_) rfl (by kernel_rfl) (by kernel_rfl) (by kernel_rfl) (fun _ _ _ h => h) (Or.inl ⟨by rfl, ?_⟩) (by first | trivial | assumption) ?_
                  rotate_left 1
                  · (intro W hSw; go_simp; (try (with_reducible rfl)))
                  try simp only [Act.put, List.setIfInBounds_toArray, List.set_cons_zero, List.set_cons_succ]
                  refine wpAnyH_done (by kernel_rfl) ?_ _
                  refine NoPanic.normal ?_
                  clear hIsT
                  have hk9 := HLk.out w7 hf7
                  obtain ⟨⟨_, _, _, x1, _⟩, x2⟩ := hk9
                  go_wp2
                  have hme := HQ6.out.2.1
                  rw [HE0.out] at hme
                  exact ⟨⟨i + 1, by omega, by go_num, lw_goes HS.out HQ6.out.2.2 HQ6.out.1 HI.out HLEN.out hme HH.out (fun c i h => by simp at h; omega) (by simp [kdOf]) hf7⟩, by simp [intOf]; omega⟩
                · have ej : ((j : Int) == 0) = false := by simpa using e
                  have he0 : er ≠ 0 := fun e2 => by obtain ⟨c, k, hck⟩ := (hjx e).1; exact (her.1 e2).2 c k hck
                  have he1 : (er == 0) = false := by simpa using he0
                  have HE0 : Hid (er ≠ 0) := he0
                  clear he0 her hjx hjn
                  try clear e
                  refine wp_region_noPanic ?_
                  refine wp_region_held_drew (S := fun W : World => w6.grownBy W none) (by kernel_rfl) (gb_drew (gb_refl w6 none)) (fun hgA => ?_)
                  generalize w6.drew = Wd at hgA ⊢
                  refine wpAnyH_take (i := 0) (oi := { dst := some 128, op := Op.move (Operand.tmp 3), type := 23, pos := _, after := #[], guard := none }) (v := ?_) rfl (by kernel_rfl) (by kernel_rfl) (by kernel_rfl) (fun _ _ _ h => h) (Or.inl ⟨by rfl, ?_⟩) (by first | trivial | assumption) ?_
                  rotate_left 1
                  · (intro W hSw; go_simp; (try (with_reducible rfl)))
                  try simp only [Act.put, List.setIfInBounds_toArray, List.set_cons_zero, List.set_cons_succ]
                  refine wpAnyH_take (i := 1) (oi := { dst := some 129, op := Op.nilCheck (Operand.tmp 128), type := 0, pos := _, after := #[{ on := 0, ground := Ground.data }], guard := none }) (v := ?_) rfl (by kernel_rfl) (by kernel_rfl) (by kernel_rfl) (fun _ _ _ h => h) (Or.inl ⟨by rfl, ?_⟩) (by first | trivial | assumption) ?_
                  rotate_left 1
                  · (intro W hSw; go_simp; (try (with_reducible rfl)))
                  try simp only [Act.put, List.setIfInBounds_toArray, List.set_cons_zero, List.set_cons_succ]
                  refine wpAnyH_take (i := 2) (oi := { dst := some 130, op := Op.fieldAddr 47 (Operand.tmp 129) 3, type := 0, pos := _, after := #[{ on := 1, ground := Ground.data }], guard := none }) (v := ?_) rfl (by kernel_rfl) (by kernel_rfl) (by kernel_rfl) (fun _ _ _ h => h) (Or.inl ⟨by rfl, ?_⟩) (by first | trivial | assumption) ?_
                  rotate_left 1
                  · (intro W hSw; go_simp; (try (with_reducible rfl)))
                  try simp only [Act.put, List.setIfInBounds_toArray, List.set_cons_zero, List.set_cons_succ]
                  refine wpAnyH_take (i := 3) (oi := { dst := some 131, op := Op.load 44 (Operand.tmp 130), type := 44, pos := _, after := #[{ on := 2, ground := Ground.data }], guard := none }) (v := ?_) rfl (by kernel_rfl) (by kernel_rfl) (by kernel_rfl) (fun _ _ _ h => h) (Or.inl ⟨by rfl, ?_⟩) (by first | trivial | assumption) ?_
                  rotate_left 1
                  · (intro W hSw; obtain ⟨⟨y0, y1, y2, y3, y4⟩, _⟩ := HLk.out W hSw; go_simp; (try (with_reducible rfl)))
                  try simp only [Act.put, List.setIfInBounds_toArray, List.set_cons_zero, List.set_cons_succ]
                  refine wpAnyH_take (i := 4) (oi := { dst := some 132, op := Op.move (Operand.tmp 3), type := 23, pos := _, after := #[], guard := none }) (v := ?_) rfl (by kernel_rfl) (by kernel_rfl) (by kernel_rfl) (fun _ _ _ h => h) (Or.inl ⟨by rfl, ?_⟩) (by first | trivial | assumption) ?_
                  rotate_left 1
                  · (intro W hSw; go_simp; (try (with_reducible rfl)))
                  try simp only [Act.put, List.setIfInBounds_toArray, List.set_cons_zero, List.set_cons_succ]
                  refine wpAnyH_take (i := 5) (oi := { dst := some 133, op := Op.nilCheck (Operand.tmp 132), type := 0, pos := _, after := #[{ on := 4, ground := Ground.data }], guard := none }) (v := ?_) rfl (by kernel_rfl) (by kernel_rfl) (by kernel_rfl) (fun _ _ _ h => h) (Or.inl ⟨by rfl, ?_⟩) (by first | trivial | assumption) ?_
                  rotate_left 1
                  · (intro W hSw; go_simp; (try (with_reducible rfl)))
                  try simp only [Act.put, List.setIfInBounds_toArray, List.set_cons_zero, List.set_cons_succ]
                  refine wpAnyH_take (i := 6) (oi := { dst := some 134, op := Op.fieldAddr 47 (Operand.tmp 133) 4, type := 0, pos := _, after := #[{ on := 5, ground := Ground.data }], guard := none }) (v := ?_) rfl (by kernel_rfl) (by kernel_rfl) (by kernel_rfl) (fun _ _ _ h => h) (Or.inl ⟨by rfl, ?_⟩) (by first | trivial | assumption) ?_
                  rotate_left 1
                  · (intro W hSw; go_simp; (try (with_reducible rfl)))
                  try simp only [Act.put, List.setIfInBounds_toArray, List.set_cons_zero, List.set_cons_succ]
                  refine wpAnyH_take (i := 7) (oi := { dst := some 135, op := Op.load 45 (Operand.tmp 134), type := 45, pos := _, after := #[{ on := 6, ground := Ground.data }], guard := none }) (v := ?_) rfl (by kernel_rfl) (by kernel_rfl) (by kernel_rfl) (fun _ _ _ h => h) (Or.inl ⟨by rfl, ?_⟩) (by first | trivial | assumption) ?_
                  rotate_left 1
                  · (intro W hSw; obtain ⟨⟨y0, y1, y2, y3, y4⟩, _⟩ := HLk.out W hSw; go_simp; (try (with_reducible rfl)))
                  try simp only [Act.put, List.setIfInBounds_toArray, List.set_cons_zero, List.set_cons_succ]
                  refine wpAnyH_take (i := 8) (oi := { dst := some 136, op := Op.move (Operand.tmp 7), type := 3, pos := _, after := #[], guard := none }) (v := ?_) rfl (by kernel_rfl) (by kernel_rfl) (by kernel_rfl) (fun _ _ _ h => h) (Or.inl ⟨by rfl, ?_⟩) (by first | trivial | assumption) ?_
                  rotate_left 1
                  · (intro W hSw; go_simp; (try (with_reducible rfl)))
                  try simp only [Act.put, List.setIfInBounds_toArray, List.set_cons_zero, List.set_cons_succ]
                  refine wpAnyH_take (i := 9) (oi := { dst := some 137, op := Op.indexAddr 45 (Operand.tmp 135) (Operand.tmp 136), type := 0, pos := _, after := #[{ on := 7, ground := Ground.data }, { on := 8, ground := Ground.data }], guard := none }) (v := ?_) rfl (by kernel_rfl) (by kernel_rfl) (by kernel_rfl) (fun _ _ _ h => h) (Or.inl ⟨by rfl, ?_⟩) (by first | trivial | assumption) ?_
                  rotate_left 1
                  · (intro W hSw; go_simp; (try (with_reducible rfl)))
                  try simp only [Act.put, List.setIfInBounds_toArray, List.set_cons_zero, List.set_cons_succ]
                  refine wpAnyH_take (i := 10) (oi := { dst := some 138, op := Op.load 26 (Operand.tmp 137), type := 26, pos := _, after := #[{ on := 9, ground := Ground.data }], guard := none }) (v := ?_) rfl (by kernel_rfl) (by kernel_rfl) (by kernel_rfl) (fun _ _ _ h => h) (Or.inl ⟨by rfl, ?_⟩) (by first | trivial | assumption) ?_
                  rotate_left 1
                  · (intro W hSw; obtain ⟨⟨y0, y1, y2, y3, y4⟩, _⟩ := HLk.out W hSw; go_simp; (try (with_reducible rfl)))
                  try simp only [Act.put, List.setIfInBounds_toArray, List.set_cons_zero, List.set_cons_succ]
                  refine wpAnyH_ready (rs := [11]) (by kernel_rfl) (by simp) ?_
                  refine (AllReadyH.cons rfl (fun K hK => ?_) AllReadyH.nil)
                  go_simp
                  (with_reducible refine (hIsT Wd hgA).mono ?_)
                  rintro e w7 ⟨rfl, hgn⟩
                  have hf7 := gb_trans hgA hgn
                  clear hgn
                  refine hK.out _ _ hf7 (fun hS => ?_)
                  clear hK K hS
                  try simp only [Act.put, List.setIfInBounds_toArray, List.set_cons_zero, List.set_cons_succ]
                  refine wpAnyH_take (i := 12) (oi := { dst := some 140, op := Op.move (Operand.tmp 139), type := 4, pos := _, after := #[{ on := 11, ground := Ground.data }, { on := 11, ground := Ground.chain }], guard := none }) (v := ?_) rfl (by kernel_rfl) (by kernel_rfl) (by kernel_rfl) (fun _ _ _ h => h) (Or.inl ⟨by rfl, ?_⟩) (by first | trivial | assumption) ?_
                  rotate_left 1
                  · (intro W hSw; go_simp; (try (with_reducible rfl)))
                  try simp only [Act.put, List.setIfInBounds_toArray, List.set_cons_zero, List.set_cons_succ]
                  refine wpAnyH_take (i := 13) (oi := { dst := some 141, op := Op.move (Operand.tmp 4), type := 55, pos := _, after := #[{ on := 12, ground := Ground.guard }], guard := some (12, true) }) (v := ?_) rfl (by kernel_rfl) (by kernel_rfl) (by kernel_rfl) (fun _ _ _ h => h) (Or.inl ⟨by rfl, ?_⟩) (by first | trivial | assumption) ?_
                  rotate_left 1
                  · (intro W hSw; go_simp; (try (with_reducible rfl)))
                  try simp only [Act.put, List.setIfInBounds_toArray, List.set_cons_zero, List.set_cons_succ]
                  refine wpAnyH_take (i := 14) (oi := { dst := some 142, op := Op.move (Operand.tmp 7), type := 3, pos := _, after := #[{ on := 12, ground := Ground.guard }], guard := some (12, true) }) (v := ?_) rfl (by kernel_rfl) (by kernel_rfl) (by kernel_rfl) (fun _ _ _ h => h) (Or.inl ⟨by rfl, ?_⟩) (by first | trivial | assumption) ?_
                  rotate_left 1
                  · (intro W hSw; go_simp; (try (with_reducible rfl)))
                  try simp only [Act.put, List.setIfInBounds_toArray, List.set_cons_zero, List.set_cons_succ]
                  refine wpAnyH_take (i := 15) (oi := { dst := some 143, op := Op.indexAddr 55 (Operand.tmp 141) (Operand.tmp 142), type := 0, pos := _, after := #[{ on := 13, ground := Ground.data }, { on := 14, ground := Ground.data }, { on := 12, ground := Ground.guard }], guard := some (12, true) }) (v := ?_) rfl (by kernel_rfl) (by kernel_rfl) (by kernel_rfl) (fun _ _ _ h => h) (Or.inl ⟨by rfl, ?_⟩) (by first | trivial | assumption) ?_
                  rotate_left 1
                  · (intro W hSw; go_simp; (try (with_reducible rfl)))
                  try simp only [Act.put, List.setIfInBounds_toArray, List.set_cons_zero, List.set_cons_succ]
                  refine wpAnyH_take (i := 16) (oi := { dst := some 144, op := Op.load 3 (Operand.tmp 143), type := 3, pos := _, after := #[{ on := 15, ground := Ground.data }, { on := 12, ground := Ground.guard }], guard := some (12, true) }) (v := ?_) rfl (by kernel_rfl) (by kernel_rfl) (by kernel_rfl) (fun _ _ _ h => h) (Or.inl ⟨by rfl, ?_⟩) (by first | trivial | assumption) ?_
                  rotate_left 1
                  · (intro W hSw; obtain ⟨⟨y0, y1, y2, y3, y4⟩, _⟩ := HLk.out W hSw; go_simp; (try (with_reducible rfl)))
                  try simp only [Act.put, List.setIfInBounds_toArray, List.set_cons_zero, List.set_cons_succ]
                  refine wpAnyH_take (i := 17) (oi := { dst := some 145, op := Op.binOp BinOp.eql 3 (Operand.tmp 144) (Operand.const (Value.int IntKind.i64 0)) 3, type := 4, pos := _, after := #[{ on := 16, ground := Ground.data }, { on := 12, ground := Ground.guard }], guard := some (12, true) }) (v := ?_) rfl (by kernel_rfl) (by kernel_rfl) (by kernel_rfl) (fun _ _ _ h => h) (Or.inl ⟨by rfl, ?_⟩) (by first | trivial | assumption) ?_
                  rotate_left 1
                  · (intro W hSw; go_simp; (try (with_reducible rfl)))
                  try simp only [Act.put, List.setIfInBounds_toArray, List.set_cons_zero, List.set_cons_succ]
                  refine wpAnyH_take (i := 18) (oi := { dst := some 146, op := Op.fieldAddr 28 (Operand.tmp 6) 0, type := 0, pos := _, after := #[{ on := 12, ground := Ground.guard }], guard := some (12, true) }) (v := ?_) rfl (by kernel_rfl) (by kernel_rfl) (by kernel_rfl) (fun _ _ _ h => h) (Or.inl ⟨by rfl, ?_⟩) (by first | trivial | assumption) ?_
                  rotate_left 1
                  · (intro W hSw; go_simp; (try (with_reducible rfl)))
                  try simp only [Act.put, List.setIfInBounds_toArray, List.set_cons_zero, List.set_cons_succ]
                  refine wpAnyH_take (i := 19) (oi := { dst := some 147, op := Op.load 3 (Operand.tmp 146), type := 3, pos := _, after := #[{ on := 18, ground := Ground.data }, { on := 12, ground := Ground.guard }], guard := some (12, true) }) (v := ?_) rfl (by kernel_rfl) (by kernel_rfl) (by kernel_rfl) (fun _ _ _ h => h) (Or.inl ⟨by rfl, ?_⟩) (by first | trivial | assumption) ?_
                  rotate_left 1
                  · (intro W hSw; obtain ⟨⟨y0, y1, y2, y3, y4⟩, _⟩ := HLk.out W hSw; go_simp; (try (with_reducible rfl)))
                  try simp only [Act.put, List.setIfInBounds_toArray, List.set_cons_zero, List.set_cons_succ]
                  refine wpAnyH_take (i := 20) (oi := { dst := some 148, op := Op.binOp BinOp.eql 3 (Operand.tmp 147) (Operand.const (Value.int IntKind.i64 4)) 3, type := 4, pos := _, after := #[{ on := 19, ground := Ground.data }, { on := 12, ground := Ground.guard }], guard := some (12, true) }) (v := ?_) rfl (by kernel_rfl) (by kernel_rfl) (by kernel_rfl) (fun _ _ _ h => h) (Or.inl ⟨by rfl, ?_⟩) (by first | trivial | assumption) ?_
                  rotate_left 1
                  · (intro W hSw; go_simp; (try (with_reducible rfl)))
                  try simp only [Act.put, List.setIfInBounds_toArray, List.set_cons_zero, List.set_cons_succ]
                  refine wpAnyH_take (i := 21) (oi := { dst := some 149, op := Op.move (Operand.tmp 148), type := 4, pos := _, after := #[{ on := 20, ground := Ground.data }, { on := 12, ground := Ground.chain }, { on := 12, ground := Ground.guard }], guard := some (12, true) }) (v := ?_) rfl (by kernel_rfl) (by kernel_rfl) (by kernel_rfl) (fun _ _ _ h => h) (Or.inl ⟨by rfl, ?_⟩) (by first | trivial | assumption) ?_
                  rotate_left 1
                  · (intro W hSw; go_simp; (try (with_reducible rfl)))
                  try simp only [Act.put, List.setIfInBounds_toArray, List.set_cons_zero, List.set_cons_succ]
                  refine wpAnyH_take (i := 22) (oi := { dst := some 150, op := Op.fieldAddr 28 (Operand.tmp 6) 0, type := 0, pos := _, after := #[{ on := 21, ground := Ground.guard }], guard := some (21, false) }) (v := undef) rfl (by kernel_rfl) (by kernel_rfl) (by kernel_rfl) (fun _ _ _ h => h) (Or.inr ⟨by rfl, rfl⟩) (by first | trivial | assumption) ?_
                  try simp only [Act.put, List.setIfInBounds_toArray, List.set_cons_zero, List.set_cons_succ]
                  refine wpAnyH_take (i := 23) (oi := { dst := some 151, op := Op.load 3 (Operand.tmp 150), type := 3, pos := _, after := #[{ on := 22, ground := Ground.data }, { on := 21, ground := Ground.guard }], guard := some (21, false) }) (v := undef) rfl (by kernel_rfl) (by kernel_rfl) (by kernel_rfl) (fun _ _ _ h => h) (Or.inr ⟨by rfl, rfl⟩) (by first | trivial | assumption) ?_
                  try simp only [Act.put, List.setIfInBounds_toArray, List.set_cons_zero, List.set_cons_succ]
                  refine wpAnyH_take (i := 24) (oi := { dst := some 152, op := Op.binOp BinOp.eql 3 (Operand.tmp 151) (Operand.const (Value.int IntKind.i64 5)) 3, type := 4, pos := _, after := #[{ on := 23, ground := Ground.data }, { on := 21, ground := Ground.guard }], guard := some (21, false) }) (v := undef) rfl (by kernel_rfl) (by kernel_rfl) (by kernel_rfl) (fun _ _ _ h => h) (Or.inr ⟨by rfl, rfl⟩) (by first | trivial | assumption) ?_
                  try simp only [Act.put, List.setIfInBounds_toArray, List.set_cons_zero, List.set_cons_succ]
                  refine wpAnyH_take (i := 25) (oi := { dst := some 153, op := Op.pick (Operand.tmp 149) (Operand.const (Value.bool true)) (Operand.tmp 152), type := 4, pos := _, after := #[{ on := 21, ground := Ground.data }, { on := 24, ground := Ground.data }, { on := 12, ground := Ground.guard }], guard := some (12, true) }) (v := ?_) rfl (by kernel_rfl) (by kernel_rfl) (by kernel_rfl) (fun _ _ _ h => h) (Or.inl ⟨by rfl, ?_⟩) (by first | trivial | assumption) ?_
                  rotate_left 1
                  · (intro W hSw; go_simp; (try (with_reducible rfl)))
                  try simp only [Act.put, List.setIfInBounds_toArray, List.set_cons_zero, List.set_cons_succ]
                  refine wpAnyH_take (i := 26) (oi := { dst := some 154, op := Op.binOp BinOp.eql 4 (Operand.tmp 145) (Operand.tmp 153) 4, type := 4, pos := _, after := #[{ on := 17, ground := Ground.data }, { on := 25, ground := Ground.data }, { on := 12, ground := Ground.guard }], guard := some (12, true) }) (v := ?_) rfl (by kernel_rfl) (by kernel_rfl) (by kernel_rfl) (fun _ _ _ h => h) (Or.inl ⟨by rfl, ?_⟩) (by first | trivial | assumption) ?_
                  rotate_left 1
                  · (intro W hSw; go_simp; (try (with_reducible rfl)))
                  try simp only [Act.put, List.setIfInBounds_toArray, List.set_cons_zero, List.set_cons_succ]
                  refine wpAnyH_take (i := 27) (oi := { dst := some 155, op := Op.pick (Operand.tmp 140) (Operand.tmp 154) (Operand.const (Value.bool false)), type := 4, pos := _, after := #[{ on := 12, ground := Ground.data }, { on := 26, ground := Ground.data }], guard := none }) (v := ?_) rfl (by kernel_rfl) (by kernel_rfl) (by kernel_rfl) (fun _ _ _ h => h) (Or.inl ⟨by rfl, ?_⟩) (by first | trivial | assumption) ?_
                  rotate_left 1
                  · (intro W hSw; go_simp; (try (with_reducible rfl)))
                  try simp only [Act.put, List.setIfInBounds_toArray, List.set_cons_zero, List.set_cons_succ]
                  refine wpAnyH_take (i := 28) (oi := { dst := some 11, op := Op.assign (Operand.tmp 155), type := 4, pos := _, after := #[{ on := 27, ground := Ground.data }, { on := 21, ground := Ground.chain }, { on := 0, ground := Ground.phase }, { on := 1, ground := Ground.phase }, { on := 2, ground := Ground.phase }, { on := 3, ground := Ground.phase }, { on := 4, ground := Ground.phase }, { on := 5, ground := Ground.phase }, { on := 6, ground := Ground.phase }, { on := 7, ground := Ground.phase }, { on := 8, ground := Ground.phase }, { on := 9, ground := Ground.phase }, { on := 10, ground := Ground.phase }, { on := 11, ground := Ground.phase }, { on := 12, ground := Ground.phase }, { on := 13, ground := Ground.phase }, { on := 14, ground := Ground.phase }, { on := 15, ground := Ground.phase }, { on := 16, ground := Ground.phase }, { on := 17, ground := Ground.phase }, { on := 18, ground := Ground.phase }, { on := 19, ground := Ground.phase }, { on := 20, ground := Ground.phase }, { on := 21, ground := Ground.phase }, { on := 22, ground := Ground.phase }, { on := 23, ground := Ground.phase }, { on := 24, ground := Ground.phase }, { on := 25, ground := Ground.phase }, { on := 26, ground := Ground.phase }, { on := 27, ground := Ground.phase }], guard := none }) (v := ?_) rfl (by kernel_rfl) (by kernel_rfl) (by kernel_rfl) (fun _ _ _ h => h) (Or.inl ⟨by rfl, ?_⟩) (by first | trivial | assumption) ?_
                  rotate_left 1
                  · (intro W hSw; go_simp; (try (with_reducible rfl)))
                  try simp only [Act.put, List.setIfInBounds_toArray, List.set_cons_zero, List.set_cons_succ]
                  refine wpAnyH_done (by kernel_rfl) ?_ _
                  refine NoPanic.normal ?_
                  clear hIsT
                  go_wp2
                  exact ⟨⟨i + 1, by omega, by go_num, lw_stay HS.out HQ6.out.2.2 HQ6.out.1 HI.out HLEN.out HE0.out HQ6.out.2.1 hf7⟩, by simp [intOf]; omega⟩
              · have hIsT := fun W hW => by have := HIs.out W hW; rw [decide_eq_false hm] at this; exact this
                have he0 : er ≠ 0 := fun e2 => hm (her.1 e2).1
                have he1 : (er == 0) = false := by simpa using he0
                have HE0 : Hid (er ≠ 0) := he0
                clear he0 her hjx hjn
                try clear e
                refine wp_region_noPanic ?_
                refine wp_region_held_drew (S := fun W : World => w6.grownBy W none) (by kernel_rfl) (gb_drew (gb_refl w6 none)) (fun hgA => ?_)
                generalize w6.drew = Wd at hgA ⊢
                refine wpAnyH_take (i := 0) (oi := { dst := some 128, op := Op.move (Operand.tmp 3), type := 23, pos := _, after := #[], guard := none }) (v := ?_) rfl (by kernel_rfl) (by kernel_rfl) (by kernel_rfl) (fun _ _ _ h => h) (Or.inl ⟨by rfl, ?_⟩) (by first | trivial | assumption) ?_
                rotate_left 1
                · (intro W hSw; go_simp; (try (with_reducible rfl)))
                try simp only [Act.put, List.setIfInBounds_toArray, List.set_cons_zero, List.set_cons_succ]
                refine wpAnyH_take (i := 1) (oi := { dst := some 129, op := Op.nilCheck (Operand.tmp 128), type := 0, pos := _, after := #[{ on := 0, ground := Ground.data }], guard := none }) (v := ?_) rfl (by kernel_rfl) (by kernel_rfl) (by kernel_rfl) (fun _ _ _ h => h) (Or.inl ⟨by rfl, ?_⟩) (by first | trivial | assumption) ?_
                rotate_left 1
                · (intro W hSw; go_simp; (try (with_reducible rfl)))
                try simp only [Act.put, List.setIfInBounds_toArray, List.set_cons_zero, List.set_cons_succ]
                refine wpAnyH_take (i := 2) (oi := { dst := some 130, op := Op.fieldAddr 47 (Operand.tmp 129) 3, type := 0, pos := _, after := #[{ on := 1, ground := Ground.data }], guard := none }) (v := ?_) rfl (by kernel_rfl) (by kernel_rfl) (by kernel_rfl) (fun _ _ _ h => h) (Or.inl ⟨by rfl, ?_⟩) (by first | trivial | assumption) ?_
                rotate_left 1
                · (intro W hSw; go_simp; (try (with_reducible rfl)))
                try simp only [Act.put, List.setIfInBounds_toArray, List.set_cons_zero, List.set_cons_succ]
                refine wpAnyH_take (i := 3) (oi := { dst := some 131, op := Op.load 44 (Operand.tmp 130), type := 44, pos := _, after := #[{ on := 2, ground := Ground.data }], guard := none }) (v := ?_) rfl (by kernel_rfl) (by kernel_rfl) (by kernel_rfl) (fun _ _ _ h => h) (Or.inl ⟨by rfl, ?_⟩) (by first | trivial | assumption) ?_
                rotate_left 1
                · (intro W hSw; obtain ⟨⟨y0, y1, y2, y3, y4⟩, _⟩ := HLk.out W hSw; go_simp; (try (with_reducible rfl)))
                try simp only [Act.put, List.setIfInBounds_toArray, List.set_cons_zero, List.set_cons_succ]
                refine wpAnyH_take (i := 4) (oi := { dst := some 132, op := Op.move (Operand.tmp 3), type := 23, pos := _, after := #[], guard := none }) (v := ?_) rfl (by kernel_rfl) (by kernel_rfl) (by kernel_rfl) (fun _ _ _ h => h) (Or.inl ⟨by rfl, ?_⟩) (by first | trivial | assumption) ?_
                rotate_left 1
                · (intro W hSw; go_simp; (try (with_reducible rfl)))
                try simp only [Act.put, List.setIfInBounds_toArray, List.set_cons_zero, List.set_cons_succ]
                refine wpAnyH_take (i := 5) (oi := { dst := some 133, op := Op.nilCheck (Operand.tmp 132), type := 0, pos := _, after := #[{ on := 4, ground := Ground.data }], guard := none }) (v := ?_) rfl (by kernel_rfl) (by kernel_rfl) (by kernel_rfl) (fun _ _ _ h => h) (Or.inl ⟨by rfl, ?_⟩) (by first | trivial | assumption) ?_
                rotate_left 1
                · (intro W hSw; go_simp; (try (with_reducible rfl)))
                try simp only [Act.put, List.setIfInBounds_toArray, List.set_cons_zero, List.set_cons_succ]
                refine wpAnyH_take (i := 6) (oi := { dst := some 134, op := Op.fieldAddr 47 (Operand.tmp 133) 4, type := 0, pos := _, after := #[{ on := 5, ground := Ground.data }], guard := none }) (v := ?_) rfl (by kernel_rfl) (by kernel_rfl) (by kernel_rfl) (fun _ _ _ h => h) (Or.inl ⟨by rfl, ?_⟩) (by first | trivial | assumption) ?_
                rotate_left 1
                · (intro W hSw; go_simp; (try (with_reducible rfl)))
                try simp only [Act.put, List.setIfInBounds_toArray, List.set_cons_zero, List.set_cons_succ]
                refine wpAnyH_take (i := 7) (oi := { dst := some 135, op := Op.load 45 (Operand.tmp 134), type := 45, pos := _, after := #[{ on := 6, ground := Ground.data }], guard := none }) (v := ?_) rfl (by kernel_rfl) (by kernel_rfl) (by kernel_rfl) (fun _ _ _ h => h) (Or.inl ⟨by rfl, ?_⟩) (by first | trivial | assumption) ?_
                rotate_left 1
                · (intro W hSw; obtain ⟨⟨y0, y1, y2, y3, y4⟩, _⟩ := HLk.out W hSw; go_simp; (try (with_reducible rfl)))
                try simp only [Act.put, List.setIfInBounds_toArray, List.set_cons_zero, List.set_cons_succ]
                refine wpAnyH_take (i := 8) (oi := { dst := some 136, op := Op.move (Operand.tmp 7), type := 3, pos := _, after := #[], guard := none }) (v := ?_) rfl (by kernel_rfl) (by kernel_rfl) (by kernel_rfl) (fun _ _ _ h => h) (Or.inl ⟨by rfl, ?_⟩) (by first | trivial | assumption) ?_
                rotate_left 1
                · (intro W hSw; go_simp; (try (with_reducible rfl)))
                try simp only [Act.put, List.setIfInBounds_toArray, List.set_cons_zero, List.set_cons_succ]
                refine wpAnyH_take (i := 9) (oi := { dst := some 137, op := Op.indexAddr 45 (Operand.tmp 135) (Operand.tmp 136), type := 0, pos := _, after := #[{ on := 7, ground := Ground.data }, { on := 8, ground := Ground.data }], guard := none }) (v := ?_) rfl (by kernel_rfl) (by kernel_rfl) (by kernel_rfl) (fun _ _ _ h => h) (Or.inl ⟨by rfl, ?_⟩) (by first | trivial | assumption) ?_
                rotate_left 1
                · (intro W hSw; go_simp; (try (with_reducible rfl)))
                try simp only [Act.put, List.setIfInBounds_toArray, List.set_cons_zero, List.set_cons_succ]
                refine wpAnyH_take (i := 10) (oi := { dst := some 138, op := Op.load 26 (Operand.tmp 137), type := 26, pos := _, after := #[{ on := 9, ground := Ground.data }], guard := none }) (v := ?_) rfl (by kernel_rfl) (by kernel_rfl) (by kernel_rfl) (fun _ _ _ h => h) (Or.inl ⟨by rfl, ?_⟩) (by first | trivial | assumption) ?_
                rotate_left 1
                · (intro W hSw; obtain ⟨⟨y0, y1, y2, y3, y4⟩, _⟩ := HLk.out W hSw; go_simp; (try (with_reducible rfl)))
                try simp only [Act.put, List.setIfInBounds_toArray, List.set_cons_zero, List.set_cons_succ]
                refine wpAnyH_ready (rs := [11]) (by kernel_rfl) (by simp) ?_
                refine (AllReadyH.cons rfl (fun K hK => ?_) AllReadyH.nil)
                go_simp
                (with_reducible refine (hIsT Wd hgA).mono ?_)
                rintro e w7 ⟨rfl, hgn⟩
                have hf7 := gb_trans hgA hgn
                clear hgn
                refine hK.out _ _ hf7 (fun hS => ?_)
                clear hK K hS
                try simp only [Act.put, List.setIfInBounds_toArray, List.set_cons_zero, List.set_cons_succ]
                refine wpAnyH_take (i := 12) (oi := { dst := some 140, op := Op.move (Operand.tmp 139), type := 4, pos := _, after := #[{ on := 11, ground := Ground.data }, { on := 11, ground := Ground.chain }], guard := none }) (v := ?_) rfl (by kernel_rfl) (by kernel_rfl) (by kernel_rfl) (fun _ _ _ h => h) (Or.inl ⟨by rfl, ?_⟩) (by first | trivial | assumption) ?_
                rotate_left 1
                · (intro W hSw; go_simp; (try (with_reducible rfl)))
                try simp only [Act.put, List.setIfInBounds_toArray, List.set_cons_zero, List.set_cons_succ]
                refine wpAnyH_take (i := 13) (oi := { dst := some 141, op := Op.move (Operand.tmp 4), type := 55, pos := _, after := #[{ on := 12, ground := Ground.guard }], guard := some (12, true) }) (v := undef) rfl (by kernel_rfl) (by kernel_rfl) (by kernel_rfl) (fun _ _ _ h => h) (Or.inr ⟨by rfl, rfl⟩) (by first | trivial | assumption) ?_
                try simp only [Act.put, List.setIfInBounds_toArray, List.set_cons_zero, List.set_cons_succ]
                refine wpAnyH_take (i := 14) (oi := { dst := some 142, op := Op.move (Operand.tmp 7), type := 3, pos := _, after := #[{ on := 12, ground := Ground.guard }], guard := some (12, true) }) (v := undef) rfl (by kernel_rfl) (by kernel_rfl) (by kernel_rfl) (fun _ _ _ h => h) (Or.inr ⟨by rfl, rfl⟩) (by first | trivial | assumption) ?_
                try simp only [Act.put, List.setIfInBounds_toArray, List.set_cons_zero, List.set_cons_succ]
                refine wpAnyH_take (i := 15) (oi := { dst := some 143, op := Op.indexAddr 55 (Operand.tmp 141) (Operand.tmp 142), type := 0, pos := _, after := #[{ on := 13, ground := Ground.data }, { on := 14, ground := Ground.data }, { on := 12, ground := Ground.guard }], guard := some (12, true) }) (v := undef) rfl (by kernel_rfl) (by kernel_rfl) (by kernel_rfl) (fun _ _ _ h => h) (Or.inr ⟨by rfl, rfl⟩) (by first | trivial | assumption) ?_
                try simp only [Act.put, List.setIfInBounds_toArray, List.set_cons_zero, List.set_cons_succ]
                refine wpAnyH_take (i := 16) (oi := { dst := some 144, op := Op.load 3 (Operand.tmp 143), type := 3, pos := _, after := #[{ on := 15, ground := Ground.data }, { on := 12, ground := Ground.guard }], guard := some (12, true) }) (v := undef) rfl (by kernel_rfl) (by kernel_rfl) (by kernel_rfl) (fun _ _ _ h => h) (Or.inr ⟨by rfl, rfl⟩) (by first | trivial | assumption) ?_
                try simp only [Act.put, List.setIfInBounds_toArray, List.set_cons_zero, List.set_cons_succ]
                refine wpAnyH_take (i := 17) (oi := { dst := some 145, op := Op.binOp BinOp.eql 3 (Operand.tmp 144) (Operand.const (Value.int IntKind.i64 0)) 3, type := 4, pos := _, after := #[{ on := 16, ground := Ground.data }, { on := 12, ground := Ground.guard }], guard := some (12, true) }) (v := undef) rfl (by kernel_rfl) (by kernel_rfl) (by kernel_rfl) (fun _ _ _ h => h) (Or.inr ⟨by rfl, rfl⟩) (by first | trivial | assumption) ?_
                try simp only [Act.put, List.setIfInBounds_toArray, List.set_cons_zero, List.set_cons_succ]
                refine wpAnyH_take (i := 18) (oi := { dst := some 146, op := Op.fieldAddr 28 (Operand.tmp 6) 0, type := 0, pos := _, after := #[{ on := 12, ground := Ground.guard }], guard := some (12, true) }) (v := undef) rfl (by kernel_rfl) (by kernel_rfl) (by kernel_rfl) (fun _ _ _ h => h) (Or.inr ⟨by rfl, rfl⟩) (by first | trivial | assumption) ?_
                try simp only [Act.put, List.setIfInBounds_toArray, List.set_cons_zero, List.set_cons_succ]
                refine wpAnyH_take (i := 19) (oi := { dst := some 147, op := Op.load 3 (Operand.tmp 146), type := 3, pos := _, after := #[{ on := 18, ground := Ground.data }, { on := 12, ground := Ground.guard }], guard := some (12, true) }) (v := undef) rfl (by kernel_rfl) (by kernel_rfl) (by kernel_rfl) (fun _ _ _ h => h) (Or.inr ⟨by rfl, rfl⟩) (by first | trivial | assumption) ?_
                try simp only [Act.put, List.setIfInBounds_toArray, List.set_cons_zero, List.set_cons_succ]
                refine wpAnyH_take (i := 20) (oi := { dst := some 148, op := Op.binOp BinOp.eql 3 (Operand.tmp 147) (Operand.const (Value.int IntKind.i64 4)) 3, type := 4, pos := _, after := #[{ on := 19, ground := Ground.data }, { on := 12, ground := Ground.guard }], guard := some (12, true) }) (v := undef) rfl (by kernel_rfl) (by kernel_rfl) (by kernel_rfl) (fun _ _ _ h => h) (Or.inr ⟨by rfl, rfl⟩) (by first | trivial | assumption) ?_
                try simp only [Act.put, List.setIfInBounds_toArray, List.set_cons_zero, List.set_cons_succ]
                refine wpAnyH_take (i := 21) (oi := { dst := some 149, op := Op.move (Operand.tmp 148), type := 4, pos := _, after := #[{ on := 20, ground := Ground.data }, { on := 12, ground := Ground.chain }, { on := 12, ground := Ground.guard }], guard := some (12, true) }) (v := undef) rfl (by kernel_rfl) (by kernel_rfl) (by kernel_rfl) (fun _ _ _ h => h) (Or.inr ⟨by rfl, rfl⟩) (by first | trivial | assumption) ?_
                try simp only [Act.put, List.setIfInBounds_toArray, List.set_cons_zero, List.set_cons_succ]
                refine wpAnyH_take (i := 22) (oi := { dst := some 150, op := Op.fieldAddr 28 (Operand.tmp 6) 0, type := 0, pos := _, after := #[{ on := 21, ground := Ground.guard }], guard := some (21, false) }) (v := undef) rfl (by kernel_rfl) (by kernel_rfl) (by kernel_rfl) (fun _ _ _ h => h) (Or.inr ⟨by rfl, rfl⟩) (by first | trivial | assumption) ?_
                try simp only [Act.put, List.setIfInBounds_toArray, List.set_cons_zero, List.set_cons_succ]
                refine wpAnyH_take (i := 23) (oi := { dst := some 151, op := Op.load 3 (Operand.tmp 150), type := 3, pos := _, after := #[{ on := 22, ground := Ground.data }, { on := 21, ground := Ground.guard }], guard := some (21, false) }) (v := undef) rfl (by kernel_rfl) (by kernel_rfl) (by kernel_rfl) (fun _ _ _ h => h) (Or.inr ⟨by rfl, rfl⟩) (by first | trivial | assumption) ?_
                try simp only [Act.put, List.setIfInBounds_toArray, List.set_cons_zero, List.set_cons_succ]
                refine wpAnyH_take (i := 24) (oi := { dst := some 152, op := Op.binOp BinOp.eql 3 (Operand.tmp 151) (Operand.const (Value.int IntKind.i64 5)) 3, type := 4, pos := _, after := #[{ on := 23, ground := Ground.data }, { on := 21, ground := Ground.guard }], guard := some (21, false) }) (v := undef) rfl (by kernel_rfl) (by kernel_rfl) (by kernel_rfl) (fun _ _ _ h => h) (Or.inr ⟨by rfl, rfl⟩) (by first | trivial | assumption) ?_
                try simp only [Act.put, List.setIfInBounds_toArray, List.set_cons_zero, List.set_cons_succ]
                refine wpAnyH_take (i := 25) (oi := { dst := some 153, op := Op.pick (Operand.tmp 149) (Operand.const (Value.bool true)) (Operand.tmp 152), type := 4, pos := _, after := #[{ on := 21, ground := Ground.data }, { on := 24, ground := Ground.data }, { on := 12, ground := Ground.guard }], guard := some (12, true) }) (v := undef) rfl (by kernel_rfl) (by kernel_rfl) (by kernel_rfl) (fun _ _ _ h => h) (Or.inr ⟨by rfl, rfl⟩) (by first | trivial | assumption) ?_
                try simp only [Act.put, List.setIfInBounds_toArray, List.set_cons_zero, List.set_cons_succ]
                refine wpAnyH_take (i := 26) (oi := { dst := some 154, op := Op.binOp BinOp.eql 4 (Operand.tmp 145) (Operand.tmp 153) 4, type := 4, pos := _, after := #[{ on := 17, ground := Ground.data }, { on := 25, ground := Ground.data }, { on := 12, ground := Ground.guard }], guard := some (12, true) }) (v := undef) rfl (by kernel_rfl) (by kernel_rfl) (by kernel_rfl) (fun _ _ _ h => h) (Or.inr ⟨by rfl, rfl⟩) (by first | trivial | assumption) ?_
                try simp only [Act.put, List.setIfInBounds_toArray, List.set_cons_zero, List.set_cons_succ]
                refine wpAnyH_take (i := 27) (oi := { dst := some 155, op := Op.pick (Operand.tmp 140) (Operand.tmp 154) (Operand.const (Value.bool false)), type := 4, pos := _, after := #[{ on := 12, ground := Ground.data }, { on := 26, ground := Ground.data }], guard := none }) (v := ?_) rfl (by kernel_rfl) (by kernel_rfl) (by kernel_rfl) (fun _ _ _ h => h) (Or.inl ⟨by rfl, ?_⟩) (by first | trivial | assumption) ?_
                rotate_left 1
                · (intro W hSw; go_simp; (try (with_reducible rfl)))
                try simp only [Act.put, List.setIfInBounds_toArray, List.set_cons_zero, List.set_cons_succ]
                refine wpAnyH_take (i := 28) (oi := { dst := some 11, op := Op.assign (Operand.tmp 155), type := 4, pos := _, after := #[{ on := 27, ground := Ground.data }, { on := 21, ground := Ground.chain }, { on := 0, ground := Ground.phase }, { on := 1, ground := Ground.phase }, { on := 2, ground := Ground.phase }, { on := 3, ground := Ground.phase }, { on := 4, ground := Ground.phase }, { on := 5, ground := Ground.phase }, { on := 6, ground := Ground.phase }, { on := 7, ground := Ground.phase }, { on := 8, ground := Ground.phase }, { on := 9, ground := Ground.phase }, { on := 10, ground := Ground.phase }, { on := 11, ground := Ground.phase }, { on := 12, ground := Ground.phase }, { on := 13, ground := Ground.phase }, { on := 14, ground := Ground.phase }, { on := 15, ground := Ground.phase }, { on := 16, ground := Ground.phase }, { on := 17, ground := Ground.phase }, { on := 18, ground := Ground.phase }, { on := 19, ground := Ground.phase }, { on := 20, ground := Ground.phase }, { on := 21, ground := Ground.phase }, { on := 22, ground := Ground.phase }, { on := 23, ground := Ground.phase }, { on := 24, ground := Ground.phase }, { on := 25, ground := Ground.phase }, { on := 26, ground := Ground.phase }, { on := 27, ground := Ground.phase }], guard := none }) (v := ?_) rfl (by kernel_rfl) (by kernel_rfl) (by kernel_rfl) (fun _ _ _ h => h) (Or.inl ⟨by rfl, ?_⟩) (by first | trivial | assumption) ?_
                rotate_left 1
                · (intro W hSw; go_simp; (try (with_reducible rfl)))
                try simp only [Act.put, List.setIfInBounds_toArray, List.set_cons_zero, List.set_cons_succ]
                refine wpAnyH_done (by kernel_rfl) ?_ _
                refine NoPanic.normal ?_
                clear hIsT
                go_wp2
                exact ⟨⟨i + 1, by omega, by go_num, lw_stay HS.out HQ6.out.2.2 HQ6.out.1 HI.out HLEN.out HE0.out HQ6.out.2.1 hf7⟩, by simp [intOf]; omega⟩
            by_cases c5 : d0 = 5
            · as_aux_lemma =>
              subst c5
              obtain ⟨er, her, hcall⟩ := HQ5.out.pc (HQ5.out.gw.clast (by omega) h64 hk23)
              have hcl := hcall.mono (R' := fun y w6 => y = .returned (.int .i64 er) ∧ ∃ D' S' tg6 tc6, Hid (Mv D D' 0 ∧ Mem S S' er H (some (cl H, k2)) ∧ Qa w w6 P1 wb (i + 1) D' lsb vs Y S' cl ins (.slice (some ⟨ig, 0, none⟩) ins.length ic)) ∧ Hid (∀ W, w6.grownBy W none → Calls Tryz.prog 27 #[.pointer (some ⟨D.lb, 0, none⟩), .int .u64 H] W fun y w' => y = .returned (.bool (decide (H ∈ D.xl))) ∧ W.grownBy w' none) ∧ Hid (∀ W, w6.grownBy W none → (W.cell? ⟨wb, 3, none⟩ = some (.pointer (some ⟨D.lb, 0, none⟩)) ∧ W.cell? ⟨wb, 4, none⟩ = some (.slice (some ⟨tg6, 0, none⟩) D.xt.length tc6) ∧ W.cell? ⟨tg6, ki, none⟩ = some (.int .u64 (H : Nat)) ∧ W.cell? ⟨ig, ki, none⟩ = some (.int .i64 (j : Nat)) ∧ W.cell? ⟨wr.heap.size, 0, none⟩ = some (.int .i64 5)) ∧ W.frozen? ⟨ig, ki, none⟩ = false)) (by
                rintro y w6 ⟨rfl, hK6, D', S', hmv, hme, hQ6⟩
                obtain ⟨tg6, tc6, hl⟩ := hQ6.look hmv HH.out HJ.out (hK6.box HB5.out hbo.out) rfl
                exact ⟨rfl, D', S', tg6, tc6, ⟨hmv, hme, hQ6⟩, hQ6.isL hmv H, hl⟩)
              clear hcall
              go_wp2_with (first | (go_at_call 18; go_must (refine (hwb _).mono ?_); rintro y w' ⟨rfl, rfl⟩) | (go_at_call 24; go_must (with_reducible refine hcl.mono ?_); rintro y w6 ⟨rfl, D', S', tg6, tc6, HQ6, HIs, HLk⟩) | (go_at_call 16; go_must (refine (num_any _ _).mono ?_); rintro y w' ⟨rfl, rfl⟩) | fail)
              clear hcl u0 u2 p0 p1 p2 p3 q1 q4 hk2 hwb
              by_cases hm : H ∈ D.xl
              · have hIsT := fun W hW => by have := HIs.out W hW; rw [decide_eq_true hm] at this; exact this
                by_cases e : j = 0
                · have ej : ((j : Int) == 0) = true := by simp [e]
                  have he0 : er = 0 := her.2 (⟨hm, hjn e⟩)
                  have HE0 : Hid (er = 0) := he0
                  have he1 : (er == 0) = true := by simpa using he0
                  clear he0 her hjx hjn e
                  refine wp_region_noPanic ?_
                  refine wp_region_held_drew (S := fun W : World => w6.grownBy W none) (by kernel_rfl) (gb_drew (gb_refl w6 none)) (fun hgA => ?_)
                  generalize w6.drew = Wd at hgA ⊢
                  refine wpAnyH_take (i := 0) (oi := { dst := some 128, op := Op.move (Operand.tmp 3), type := 23, pos := _, after := #[], guard := none }) (v := ?_) rfl (by kernel_rfl) (by kernel_rfl) (by kernel_rfl) (fun _ _ _ h => h) (Or.inl ⟨by rfl, ?_⟩) (by first | trivial | assumption) ?_
                  rotate_left 1
                  · (intro W hSw; go_simp; (try (with_reducible rfl)))
                  try simp only [Act.put, List.setIfInBounds_toArray, List.set_cons_zero, List.set_cons_succ]
                  refine wpAnyH_take (i := 1) (oi := { dst := some 129, op := Op.nilCheck (Operand.tmp 128), type := 0, pos := _, after := #[{ on := 0, ground := Ground.data }], guard := none }) (v := ?_) rfl (by kernel_rfl) (by kernel_rfl) (by kernel_rfl) (fun _ _ _ h => h) (Or.inl ⟨by rfl, ?_⟩) (by first | trivial | assumption) ?_
                  rotate_left 1
                  · (intro W hSw; go_simp; (try (with_reducible rfl)))
                  try simp only [Act.put, List.setIfInBounds_toArray, List.set_cons_zero, List.set_cons_succ]
                  refine wpAnyH_take (i := 2) (oi := { dst := some 130, op := Op.fieldAddr 47 (Operand.tmp 129) 3, type := 0, pos := _, after := #[{ on := 1, ground := Ground.data }], guard := none }) (v := ?_) rfl (by kernel_rfl) (by kernel_rfl) (by kernel_rfl) (fun _ _ _ h => h) (Or.inl ⟨by rfl, ?_⟩) (by first | trivial | assumption) ?_
                  rotate_left 1
                  · (intro W hSw; go_simp; (try (with_reducible rfl)))
                  try simp only [Act.put, List.setIfInBounds_toArray, List.set_cons_zero, List.set_cons_succ]
                  refine wpAnyH_take (i := 3) (oi := { dst := some 131, op := Op.load 44 (Operand.tmp 130), type := 44, pos := _, after := #[{ on := 2, ground := Ground.data }], guard := none }) (v := ?_) rfl (by kernel_rfl) (by kernel_rfl) (by kernel_rfl) (fun _ _ _ h => h) (Or.inl ⟨by rfl, ?_⟩) (by first | trivial | assumption) ?_
                  rotate_left 1
                  · (intro W hSw; obtain ⟨⟨y0, y1, y2, y3, y4⟩, _⟩ := HLk.out W hSw; go_simp; (try (with_reducible rfl)))
                  try simp only [Act.put, List.setIfInBounds_toArray, List.set_cons_zero, List.set_cons_succ]
                  refine wpAnyH_take (i := 4) (oi := { dst := some 132, op := Op.move (Operand.tmp 3), type := 23, pos := _, after := #[], guard := none }) (v := ?_) rfl (by kernel_rfl) (by kernel_rfl) (by kernel_rfl) (fun _ _ _ h => h) (Or.inl ⟨by rfl, ?_⟩) (by first | trivial | assumption) ?_
                  rotate_left 1
                  · (intro W hSw; go_simp; (try (with_reducible rfl)))
                  try simp only [Act.put, List.setIfInBounds_toArray, List.set_cons_zero, List.set_cons_succ]
                  refine wpAnyH_take (i := 5) (oi := { dst := some 133, op := Op.nilCheck (Operand.tmp 132), type := 0, pos := _, after := #[{ on := 4, ground := Ground.data }], guard := none }) (v := ?_) rfl (by kernel_rfl) (by kernel_rfl) (by kernel_rfl) (fun _ _ _ h => h) (Or.inl ⟨by rfl, ?_⟩) (by first | trivial | assumption) ?_
                  rotate_left 1
                  · (intro W hSw; go_simp; (try (with_reducible rfl)))
                  try simp only [Act.put, List.setIfInBounds_toArray, List.set_cons_zero, List.set_cons_succ]
                  refine wpAnyH_take (i := 6) (oi := { dst := some 134, op := Op.fieldAddr 47 (Operand.tmp 133) 4, type := 0, pos := _, after := #[{ on := 5, ground := Ground.data }], guard := none }) (v := ?_) rfl (by kernel_rfl) (by kernel_rfl) (by kernel_rfl) (fun _ _ _ h => h) (Or.inl ⟨by rfl, ?_⟩) (by first | trivial | assumption) ?_
                  rotate_left 1
                  · (intro W hSw; go_simp; (try (with_reducible rfl)))
                  try simp only [Act.put, List.setIfInBounds_toArray, List.set_cons_zero, List.set_cons_succ]
                  refine wpAnyH_take (i := 7) (oi := { dst := some 135, op := Op.load 45 (Operand.tmp 134), type := 45, pos := _, after := #[{ on := 6, ground := Ground.data }], guard := none }) (v := ?_) rfl (by kernel_rfl) (by kernel_rfl) (by kernel_rfl) (fun _ _ _ h => h) (Or.inl ⟨by rfl, ?_⟩) (by first | trivial | assumption) ?_
                  rotate_left 1
                  · (intro W hSw; obtain ⟨⟨y0, y1, y2, y3, y4⟩, _⟩ := HLk.out W hSw; go_simp; (try (with_reducible rfl)))
                  try simp only [Act.put, List.setIfInBounds_toArray, List.set_cons_zero, List.set_cons_succ]
                  refine wpAnyH_take (i := 8) (oi := { dst := some 136, op := Op.move (Operand.tmp 7), type := 3, pos := _, after := #[], guard := none }) (v := ?_) rfl (by kernel_rfl) (by kernel_rfl) (by kernel_rfl) (fun _ _ _ h => h) (Or.inl ⟨by rfl, ?_⟩) (by first | trivial | assumption) ?_
                  rotate_left 1
                  · (intro W hSw; go_simp; (try (with_reducible rfl)))
                  try simp only [Act.put, List.setIfInBounds_toArray, List.set_cons_zero, List.set_cons_succ]
                  refine wpAnyH_take (i := 9) (oi := { dst := some 137, op := Op.indexAddr 45 (Operand.tmp 135) (Operand.tmp 136), type := 0, pos := _, after := #[{ on := 7, ground := Ground.data }, { on := 8, ground := Ground.data }], guard := none }) (v := ?_) rfl (by kernel_rfl) (by kernel_rfl) (by kernel_rfl) (fun _ _ _ h => h) (Or.inl ⟨by rfl, ?_⟩) (by first | trivial | assumption) ?_
                  rotate_left 1
                  · (intro W hSw; go_simp; (try (with_reducible rfl)))
                  try simp only [Act.put, List.setIfInBounds_toArray, List.set_cons_zero, List.set_cons_succ]
                  refine wpAnyH_take (i := 10) (oi := { dst := some 138, op := Op.load 26 (Operand.tmp 137), type := 26, pos := _, after := #[{ on := 9, ground := Ground.data }], guard := none }) (v := ?_) rfl (by kernel_rfl) (by kernel_rfl) (by kernel_rfl) (fun _ _ _ h => h) (Or.inl ⟨by rfl, ?_⟩) (by first | trivial | assumption) ?_
                  rotate_left 1
                  · (intro W hSw; obtain ⟨⟨y0, y1, y2, y3, y4⟩, _⟩ := HLk.out W hSw; go_simp; (try (with_reducible rfl)))
                  try simp only [Act.put, List.setIfInBounds_toArray, List.set_cons_zero, List.set_cons_succ]
                  refine wpAnyH_ready (rs := [11]) (by kernel_rfl) (by simp) ?_
                  refine (AllReadyH.cons rfl (fun K hK => ?_) AllReadyH.nil)
                  go_simp
                  (with_reducible refine (hIsT Wd hgA).mono ?_)
                  rintro e w7 ⟨rfl, hgn⟩
                  have hf7 := gb_trans hgA hgn
                  clear hgn
                  refine hK.out _ _ hf7 (fun hS => ?_)
                  clear hK K hS
                  try simp only [Act.put, List.setIfInBounds_toArray, List.set_cons_zero, List.set_cons_succ]
                  refine wpAnyH_take (i := 12) (oi := { dst := some 140, op := Op.move (Operand.tmp 139), type := 4, pos := _, after := #[{ on := 11, ground := Ground.data }, { on := 11, ground := Ground.chain }], guard := none }) (v := ?_) rfl (by kernel_rfl) (by kernel_rfl) (by kernel_rfl) (fun _ _ _ h => h) (Or.inl ⟨by rfl, ?_⟩) (by first | trivial | assumption) ?_
                  rotate_left 1
                  · (intro W hSw; go_simp; (try (with_reducible rfl)))
                  try simp only [Act.put, List.setIfInBounds_toArray, List.set_cons_zero, List.set_cons_succ]
                  refine wpAnyH_take (i := 13) (oi := { dst := some 141, op := Op.move (Operand.tmp 4), type := 55, pos := _, after := #[{ on := 12, ground := Ground.guard }], guard := some (12, true) }) (v := ?_) rfl (by kernel_rfl) (by kernel_rfl) (by kernel_rfl) (fun _ _ _ h => h) (Or.inl ⟨by rfl, ?_⟩) (by first | trivial | assumption) ?_
                  rotate_left 1
                  · (intro W hSw; go_simp; (try (with_reducible rfl)))
                  try simp only [Act.put, List.setIfInBounds_toArray, List.set_cons_zero, List.set_cons_succ]
                  refine wpAnyH_take (i := 14) (oi := { dst := some 142, op := Op.move (Operand.tmp 7), type := 3, pos := _, after := #[{ on := 12, ground := Ground.guard }], guard := some (12, true) }) (v := ?_) rfl (by kernel_rfl) (by kernel_rfl) (by kernel_rfl) (fun _ _ _ h => h) (Or.inl ⟨by rfl, ?_⟩) (by first | trivial | assumption) ?_
                  rotate_left 1
                  · (intro W hSw; go_simp; (try (with_reducible rfl)))
                  try simp only [Act.put, List.setIfInBounds_toArray, List.set_cons_zero, List.set_cons_succ]
                  refine wpAnyH_take (i := 15) (oi := { dst := some 143, op := Op.indexAddr 55 (Operand.tmp 141) (Operand.tmp 142), type := 0, pos := _, after := #[{ on := 13, ground := Ground.data }, { on := 14, ground := Ground.data }, { on := 12, ground := Ground.guard }], guard := some (12, true) }) (v := ?_) rfl (by kernel_rfl) (by kernel_rfl) (by kernel_rfl) (fun _ _ _ h => h) (Or.inl ⟨by rfl, ?_⟩) (by first | trivial | assumption) ?_
                  rotate_left 1
                  · (intro W hSw; go_simp; (try (with_reducible rfl)))
                  try simp only [Act.put, List.setIfInBounds_toArray, List.set_cons_zero, List.set_cons_succ]
                  refine wpAnyH_take (i := 16) (oi := { dst := some 144, op := Op.load 3 (Operand.tmp 143), type := 3, pos := _, after := #[{ on := 15, ground := Ground.data }, { on := 12, ground := Ground.guard }], guard := some (12, true) }) (v := ?_) rfl (by kernel_rfl) (by kernel_rfl) (by kernel_rfl) (fun _ _ _ h => h) (Or.inl ⟨by rfl, ?_⟩) (by first | trivial | assumption) ?_
                  rotate_left 1
                  · (intro W hSw; obtain ⟨⟨y0, y1, y2, y3, y4⟩, _⟩ := HLk.out W hSw; go_simp; (try (with_reducible rfl)))
                  try simp only [Act.put, List.setIfInBounds_toArray, List.set_cons_zero, List.set_cons_succ]
                  refine wpAnyH_take (i := 17) (oi := { dst := some 145, op := Op.binOp BinOp.eql 3 (Operand.tmp 144) (Operand.const (Value.int IntKind.i64 0)) 3, type := 4, pos := _, after := #[{ on := 16, ground := Ground.data }, { on := 12, ground := Ground.guard }], guard := some (12, true) }) (v := ?_) rfl (by kernel_rfl) (by kernel_rfl) (by kernel_rfl) (fun _ _ _ h => h) (Or.inl ⟨by rfl, ?_⟩) (by first | trivial | assumption) ?_
                  rotate_left 1
                  · (intro W hSw; go_simp; (try (with_reducible rfl)))
                  try simp only [Act.put, List.setIfInBounds_toArray, List.set_cons_zero, List.set_cons_succ]
                  refine wpAnyH_take (i := 18) (oi := { dst := some 146, op := Op.fieldAddr 28 (Operand.tmp 6) 0, type := 0, pos := _, after := #[{ on := 12, ground := Ground.guard }], guard := some (12, true) }) (v := ?_) rfl (by kernel_rfl) (by kernel_rfl) (by kernel_rfl) (fun _ _ _ h => h) (Or.inl ⟨by rfl, ?_⟩) (by first | trivial | assumption) ?_
                  rotate_left 1
                  · (intro W hSw; go_simp; (try (with_reducible rfl)))
                  try simp only [Act.put, List.setIfInBounds_toArray, List.set_cons_zero, List.set_cons_succ]
                  refine wpAnyH_take (i := 19) (oi := { dst := some 147, op := Op.load 3 (Operand.tmp 146), type := 3, pos := _, after := #[{ on := 18, ground := Ground.data }, { on := 12, ground := Ground.guard }], guard := some (12, true) }) (v := ?_) rfl (by kernel_rfl) (by kernel_rfl) (by kernel_rfl) (fun _ _ _ h => h) (Or.inl ⟨by rfl, ?_⟩) (by first | trivial | assumption) ?_
                  rotate_left 1
                  · (intro W hSw; obtain ⟨⟨y0, y1, y2, y3, y4⟩, _⟩ := HLk.out W hSw; go_simp; (try (with_reducible rfl)))
                  try simp only [Act.put, List.setIfInBounds_toArray, List.set_cons_zero, List.set_cons_succ]
                  refine wpAnyH_take (i := 20) (oi := { dst := some 148, op := Op.binOp BinOp.eql 3 (Operand.tmp 147) (Operand.const (Value.int IntKind.i64 4)) 3, type := 4, pos := _, after := #[{ on := 19, ground := Ground.data }, { on := 12, ground := Ground.guard }], guard := some (12, true) }) (v := ?_) rfl (by kernel_rfl) (by kernel_rfl) (by kernel_rfl) (fun _ _ _ h => h) (Or.inl ⟨by rfl, ?_⟩) (by first | trivial | assumption) ?_
                  rotate_left 1
                  · (intro W hSw; go_simp; (try (with_reducible rfl)))
                  try simp only [Act.put, List.setIfInBounds_toArray, List.set_cons_zero, List.set_cons_succ]
                  refine wpAnyH_take (i := 21) (oi := { dst := some 149, op := Op.move (Operand.tmp 148), type := 4, pos := _, after := #[{ on := 20, ground := Ground.data }, { on := 12, ground := Ground.chain }, { on := 12, ground := Ground.guard }], guard := some (12, true) }) (v := ?_) rfl (by kernel_rfl) (by kernel_rfl) (by kernel_rfl) (fun _ _ _ h => h) (Or.inl ⟨by rfl, ?_⟩) (by first | trivial | assumption) ?_
                  rotate_left 1
                  · (intro W hSw; go_simp; (try (with_reducible rfl)))
                  try simp only [Act.put, List.setIfInBounds_toArray, List.set_cons_zero, List.set_cons_succ]
                  refine wpAnyH_take (i := 22) (oi := { dst := some 150, op := Op.fieldAddr 28 (Operand.tmp 6) 0, type := 0, pos := _, after := #[{ on := 21, ground := Ground.guard }], guard := some (21, false) }) (v := ?_) rfl (by kernel_rfl) (by kernel_rfl) (by kernel_rfl) (fun _ _ _ h => h) (Or.inl ⟨by rfl, ?_⟩) (by first | trivial | assumption) ?_
                  rotate_left 1
                  · (intro W hSw; go_simp; (try (with_reducible rfl)))
                  try simp only [Act.put, List.setIfInBounds_toArray, List.set_cons_zero, List.set_cons_succ]
                  refine wpAnyH_take (i := 23) (oi := { dst := some 151, op := Op.load 3 (Operand.tmp 150), type := 3, pos := _, after := #[{ on := 22, ground := Ground.data }, { on := 21, ground := Ground.guard }], guard := some (21, false) }) (v := ?_) rfl (by kernel_rfl) (by kernel_rfl) (by kernel_rfl) (fun _ _ _ h => h) (Or.inl ⟨by rfl, ?_⟩) (by first | trivial | assumption) ?_
                  rotate_left 1
                  · (intro W hSw; obtain ⟨⟨y0, y1, y2, y3, y4⟩, _⟩ := HLk.out W hSw; go_simp; (try (with_reducible rfl)))
                  try simp only [Act.put, List.setIfInBounds_toArray, List.set_cons_zero, List.set_cons_succ]
                  refine wpAnyH_take (i := 24) (oi := { dst := some 152, op := Op.binOp BinOp.eql 3 (Operand.tmp 151) (Operand.const (Value.int IntKind.i64 5)) 3, type := 4, pos := _, after := #[{ on := 23, ground := Ground.data }, { on := 21, ground := Ground.guard }], guard := some (21, false) }) (v := ?_) rfl (by kernel_rfl) (by kernel_rfl) (by kernel_rfl) (fun _ _ _ h => h) (Or.inl ⟨by rfl, ?_⟩) (by first | trivial | assumption) ?_
                  rotate_left 1
                  · (intro W hSw; go_simp; (try (with_reducible rfl)))
                  try simp only [Act.put, List.setIfInBounds_toArray, List.set_cons_zero, List.set_cons_succ]
                  refine wpAnyH_take (i := 25) (oi := { dst := some 153, op := Op.pick (Operand.tmp 149) (Operand.const (Value.bool true)) (Operand.tmp 152), type := 4, pos := _, after := #[{ on := 21, ground := Ground.data }, { on := 24, ground := Ground.data }, { on := 12, ground := Ground.guard }], guard := some (12, true) }) (v := ?_) rfl (by kernel_rfl) (by kernel_rfl) (by kernel_rfl) (fun _ _ _ h => h) (Or.inl ⟨by rfl, ?_⟩) (by first | trivial | assumption) ?_
                  rotate_left 1
                  · (intro W hSw; go_simp; (try (with_reducible rfl)))
                  try simp only [Act.put, List.setIfInBounds_toArray, List.set_cons_zero, List.set_cons_succ]
                  refine wpAnyH_take (i := 26) (oi := { dst := some 154, op := Op.binOp BinOp.eql 4 (Operand.tmp 145) (Operand.tmp 153) 4, type := 4, pos := _, after := #[{ on := 17, ground := Ground.data }, { on := 25, ground := Ground.data }, { on := 12, ground := Ground.guard }], guard := some (12, true) }) (v := ?_) rfl (by kernel_rfl) (by kernel_rfl) (by kernel_rfl) (fun _ _ _ h => h) (Or.inl ⟨by rfl, ?_⟩) (by first | trivial | assumption) ?_
                  rotate_left 1
                  · (intro W hSw; go_simp; (try (with_reducible rfl)))
                  try simp only [Act.put, List.setIfInBounds_toArray, List.set_cons_zero, List.set_cons_succ]
                  refine wpAnyH_take (i := 27) (oi := { dst := some 155, op := Op.pick (Operand.tmp 140) (Operand.tmp 154) (Operand.const (Value.bool false)), type := 4, pos := _, after := #[{ on := 12, ground := Ground.data }, { on := 26, ground := Ground.data }], guard := none }) (v := ?_) rfl (by kernel_rfl) (by kernel_rfl) (by kernel_rfl) (fun _ _ _ h => h) (Or.inl ⟨by rfl, ?_⟩) (by first | trivial | assumption) ?_
                  rotate_left 1
                  · (intro W hSw; go_simp; (try (with_reducible rfl)))
                  try simp only [Act.put, List.setIfInBounds_toArray, List.set_cons_zero, List.set_cons_succ]
                  refine wpAnyH_take (i := 28) (oi := { dst := some 11, op := Op.assign (Operand.tmp 155), type := 4, pos := _, after := #[{ on := 27, ground := Ground.data }, { on := 21, ground := Ground.chain }, { on := 0, ground := Ground.phase }, { on := 1, ground := Ground.phase }, { on := 2, ground := Ground.phase }, { on := 3, ground := Ground.phase }, { on := 4, ground := Ground.phase }, { on := 5, ground := Ground.phase }, { on := 6, ground := Ground.phase }, { on := 7, ground := Ground.phase }, { on := 8, ground := Ground.phase }, { on := 9, ground := Ground.phase }, { on := 10, ground := Ground.phase }, { on := 11, ground := Ground.phase }, { on := 12, ground := Ground.phase }, { on := 13, ground := Ground.phase }, { on := 14, ground := Ground.phase }, { on := 15, ground := Ground.phase }, { on := 16, ground := Ground.phase }, { on := 17, ground := Ground.phase }, { on := 18, ground := Ground.phase }, { on := 19, ground := Ground.phase }, { on := 20, ground := Ground.phase }, { on := 21, ground := Ground.phase }, { on := 22, ground := Ground.phase }, { on := 23, ground := Ground.phase }, { on := 24, ground := Ground.phase }, { on := 25, ground := Ground.phase }, { on := 26, ground := Ground.phase }, { on := 27, ground := Ground.phase }], guard := none }) (v := ?_) rfl (by kernel_rfl) (by kernel_rfl) (by kernel_rfl) (fun _ _ _ h => h) (Or.inl ⟨by rfl, ?_⟩) (by first | trivial | assumption) ?_
                  rotate_left 1
                  · (intro W hSw; go_simp; (try (with_reducible rfl)))
                  try simp only [Act.put, List.setIfInBounds_toArray, List.set_cons_zero, List.set_cons_succ]
                  refine wpAnyH_done (by kernel_rfl) ?_ _
                  refine NoPanic.normal ?_
                  clear hIsT
                  have hk9 := HLk.out w7 hf7
                  obtain ⟨⟨_, _, _, x1, _⟩, x2⟩ := hk9
                  go_wp2
                  have hme := HQ6.out.2.1
                  rw [HE0.out] at hme
                  exact ⟨⟨i + 1, by omega, by go_num, lw_goes HS.out HQ6.out.2.2 HQ6.out.1 HI.out HLEN.out hme HH.out (fun c i h => by simp at h; omega) (by simp [kdOf]) hf7⟩, by simp [intOf]; omega⟩
                · have ej : ((j : Int) == 0) = false := by simpa using e
                  have he0 : er ≠ 0 := fun e2 => by obtain ⟨c, k, hck⟩ := (hjx e).1; exact (her.1 e2).2 c k hck
                  have he1 : (er == 0) = false := by simpa using he0
                  have HE0 : Hid (er ≠ 0) := he0
                  clear he0 her hjx hjn
                  try clear e
                  refine wp_region_noPanic ?_
                  refine wp_region_held_drew (S := fun W : World => w6.grownBy W none) (by kernel_rfl) (gb_drew (gb_refl w6 none)) (fun hgA => ?_)
                  generalize w6.drew = Wd at hgA ⊢
                  refine wpAnyH_take (i := 0) (oi := { dst := some 128, op := Op.move (Operand.tmp 3), type := 23, pos := _, after := #[], guard := none }) (v := ?_) rfl (by kernel_rfl) (by kernel_rfl) (by kernel_rfl) (fun _ _ _ h => h) (Or.inl ⟨by rfl, ?_⟩) (by first | trivial | assumption) ?_
                  rotate_left 1
                  · (intro W hSw; go_simp; (try (with_reducible rfl)))
                  try simp only [Act.put, List.setIfInBounds_toArray, List.set_cons_zero, List.set_cons_succ]
                  refine wpAnyH_take (i := 1) (oi := { dst := some 129, op := Op.nilCheck (Operand.tmp 128), type := 0, pos := _, after := #[{ on := 0, ground := Ground.data }], guard := none }) (v := ?_) rfl (by kernel_rfl) (by kernel_rfl) (by kernel_rfl) (fun _ _ _ h => h) (Or.inl ⟨by rfl, ?_⟩) (by first | trivial | assumption) ?_
                  rotate_left 1
                  · (intro W hSw; go_simp; (try (with_reducible rfl)))
                  try simp only [Act.put, List.setIfInBounds_toArray, List.set_cons_zero, List.set_cons_succ]
                  refine wpAnyH_take (i := 2) (oi := { dst := some 130, op := Op.fieldAddr 47 (Operand.tmp 129) 3, type := 0, pos := _, after := #[{ on := 1, ground := Ground.data }], guard := none }) (v := ?_) rfl (by kernel_rfl) (by kernel_rfl) (by kernel_rfl) (fun _ _ _ h => h) (Or.inl ⟨by rfl, ?_⟩) (by first | trivial | assumption) ?_
                  rotate_left 1
                  · (intro W hSw; go_simp; (try (with_reducible rfl)))
                  try simp only [Act.put, List.setIfInBounds_toArray, List.set_cons_zero, List.set_cons_succ]
                  refine wpAnyH_take (i := 3) (oi := { dst := some 131, op := Op.load 44 (Operand.tmp 130), type := 44, pos := _, after := #[{ on := 2, ground := Ground.data }], guard := none }) (v := ?_) rfl (by kernel_rfl) (by kernel_rfl) (by kernel_rfl) (fun _ _ _ h => h) (Or.inl ⟨by rfl, ?_⟩) (by first | trivial | assumption) ?_
                  rotate_left 1
                  · (intro W hSw; obtain ⟨⟨y0, y1, y2, y3, y4⟩, _⟩ := HLk.out W hSw; go_simp; (try (with_reducible rfl)))
                  try simp only [Act.put, List.setIfInBounds_toArray, List.set_cons_zero, List.set_cons_succ]
                  refine wpAnyH_take (i := 4) (oi := { dst := some 132, op := Op.move (Operand.tmp 3), type := 23, pos := _, after := #[], guard := none }) (v := ?_) rfl (by kernel_rfl) (by kernel_rfl) (by kernel_rfl) (fun _ _ _ h => h) (Or.inl ⟨by rfl, ?_⟩) (by first | trivial | assumption) ?_
                  rotate_left 1
                  · (intro W hSw; go_simp; (try (with_reducible rfl)))
                  try simp only [Act.put, List.setIfInBounds_toArray, List.set_cons_zero, List.set_cons_succ]
                  refine wpAnyH_take (i := 5) (oi := { dst := some 133, op := Op.nilCheck (Operand.tmp 132), type := 0, pos := _, after := #[{ on := 4, ground := Ground.data }], guard := none }) (v := ?_) rfl (by kernel_rfl) (by kernel_rfl) (by kernel_rfl) (fun _ _ _ h => h) (Or.inl ⟨by rfl, ?_⟩) (by first | trivial | assumption) ?_
                  rotate_left 1
                  · (intro W hSw; go_simp; (try (with_reducible rfl)))
                  try simp only [Act.put, List.setIfInBounds_toArray, List.set_cons_zero, List.set_cons_succ]
                  refine wpAnyH_take (i := 6) (oi := { dst := some 134, op := Op.fieldAddr 47 (Operand.tmp 133) 4, type := 0, pos := _, after := #[{ on := 5, ground := Ground.data }], guard := none }) (v := ?_) rfl (by kernel_rfl) (by kernel_rfl) (by kernel_rfl) (fun _ _ _ h => h) (Or.inl ⟨by rfl, ?_⟩) (by first | trivial | assumption) ?_
                  rotate_left 1
                  · (intro W hSw; go_simp; (try (with_reducible rfl)))
                  try simp only [Act.put, List.setIfInBounds_toArray, List.set_cons_zero, List.set_cons_succ]
                  refine wpAnyH_take (i := 7) (oi := { dst := some 135, op := Op.load 45 (Operand.tmp 134), type := 45, pos := _, after := #[{ on := 6, ground := Ground.data }], guard := none }) (v := ?_) rfl (by kernel_rfl) (by kernel_rfl) (by kernel_rfl) (fun _ _ _ h => h) (Or.inl ⟨by rfl, ?_⟩) (by first | trivial | assumption) ?_
                  rotate_left 1
                  · (intro W hSw; obtain ⟨⟨y0, y1, y2, y3, y4⟩, _⟩ := HLk.out W hSw; go_simp; (try (with_reducible rfl)))
                  try simp only [Act.put, List.setIfInBounds_toArray, List.set_cons_zero, List.set_cons_succ]
                  refine wpAnyH_take (i := 8) (oi := { dst := some 136, op := Op.move (Operand.tmp 7), type := 3, pos := _, after := #[], guard := none }) (v := ?_) rfl (by kernel_rfl) (by kernel_rfl) (by kernel_rfl) (fun _ _ _ h => h) (Or.inl ⟨by rfl, ?_⟩) (by first | trivial | assumption) ?_
                  rotate_left 1
                  · (intro W hSw; go_simp; (try (with_reducible rfl)))
                  try simp only [Act.put, List.setIfInBounds_toArray, List.set_cons_zero, List.set_cons_succ]
                  refine wpAnyH_take (i := 9) (oi := { dst := some 137, op := Op.indexAddr 45 (Operand.tmp 135) (Operand.tmp 136), type := 0, pos := _, after := #[{ on := 7, ground := Ground.data }, { on := 8, ground := Ground.data }], guard := none }) (v := ?_) rfl (by kernel_rfl) (by kernel_rfl) (by kernel_rfl) (fun _ _ _ h => h) (Or.inl ⟨by rfl, ?_⟩) (by first | trivial | assumption) ?_
                  rotate_left 1
                  · (intro W hSw; go_simp; (try (with_reducible rfl)))
                  try simp only [Act.put, List.setIfInBounds_toArray, List.set_cons_zero, List.set_cons_succ]
                  refine wpAnyH_take (i := 10) (oi := { dst := some 138, op := Op.load 26 (Operand.tmp 137), type := 26, pos := _, after := #[{ on := 9, ground := Ground.data }], guard := none }) (v := ?_) rfl (by kernel_rfl) (by kernel_rfl) (by kernel_rfl) (fun _ _ _ h => h) (Or.inl ⟨by rfl, ?_⟩) (by first | trivial | assumption) ?_
                  rotate_left 1
                  · (intro W hSw; obtain ⟨⟨y0, y1, y2, y3, y4⟩, _⟩ := HLk.out W hSw; go_simp; (try (with_reducible rfl)))
                  try simp only [Act.put, List.setIfInBounds_toArray, List.set_cons_zero, List.set_cons_succ]
                  refine wpAnyH_ready (rs := [11]) (by kernel_rfl) (by simp) ?_
                  refine (AllReadyH.cons rfl (fun K hK => ?_) AllReadyH.nil)
                  go_simp
                  (with_reducible refine (hIsT Wd hgA).mono ?_)
                  rintro e w7 ⟨rfl, hgn⟩
                  have hf7 := gb_trans hgA hgn
                  clear hgn
                  refine hK.out _ _ hf7 (fun hS => ?_)
                  clear hK K hS
                  try simp only [Act.put, List.setIfInBounds_toArray, List.set_cons_zero, List.set_cons_succ]
                  refine wpAnyH_take (i := 12) (oi := { dst := some 140, op := Op.move (Operand.tmp 139), type := 4, pos := _, after := #[{ on := 11, ground := Ground.data }, { on := 11, ground := Ground.chain }], guard := none }) (v := ?_) rfl (by kernel_rfl) (by kernel_rfl) (by kernel_rfl) (fun _ _ _ h => h) (Or.inl ⟨by rfl, ?_⟩) (by first | trivial | assumption) ?_
                  rotate_left 1
                  · (intro W hSw; go_simp; (try (with_reducible rfl)))
                  try simp only [Act.put, List.setIfInBounds_toArray, List.set_cons_zero, List.set_cons_succ]
                  refine wpAnyH_take (i := 13) (oi := { dst := some 141, op := Op.move (Operand.tmp 4), type := 55, pos := _, after := #[{ on := 12, ground := Ground.guard }], guard := some (12, true) }) (v := ?_) rfl (by kernel_rfl) (by kernel_rfl) (by kernel_rfl) (fun _ _ _ h => h) (Or.inl ⟨by rfl, ?_⟩) (by first | trivial | assumption) ?_
                  rotate_left 1
                  · (intro W hSw; go_simp; (try (with_reducible rfl)))
                  try simp only [Act.put, List.setIfInBounds_toArray, List.set_cons_zero, List.set_cons_succ]
                  refine wpAnyH_take (i := 14) (oi := { dst := some 142, op := Op.move (Operand.tmp 7), type := 3, pos := _, after := #[{ on := 12, ground := Ground.guard }], guard := some (12, true) }) (v := ?_) rfl (by kernel_rfl) (by kernel_rfl) (by kernel_rfl) (fun _ _ _ h => h) (Or.inl ⟨by rfl, ?_⟩) (by first | trivial | assumption) ?_
                  rotate_left 1
                  · (intro W hSw; go_simp; (try (with_reducible rfl)))
                  try simp only [Act.put, List.setIfInBounds_toArray, List.set_cons_zero, List.set_cons_succ]
                  refine wpAnyH_take (i := 15) (oi := { dst := some 143, op := Op.indexAddr 55 (Operand.tmp 141) (Operand.tmp 142), type := 0, pos := _, after := #[{ on := 13, ground := Ground.data }, { on := 14, ground := Ground.data }, { on := 12, ground := Ground.guard }], guard := some (12, true) }) (v := ?_) rfl (by kernel_rfl) (by kernel_rfl) (by kernel_rfl) (fun _ _ _ h => h) (Or.inl ⟨by rfl, ?_⟩) (by first | trivial | assumption) ?_
                  rotate_left 1
                  · (intro W hSw; go_simp; (try (with_reducible rfl)))
                  try simp only [Act.put, List.setIfInBounds_toArray, List.set_cons_zero, List.set_cons_succ]
                  refine wpAnyH_take (i := 16) (oi := { dst := some 144, op := Op.load 3 (Operand.tmp 143), type := 3, pos := _, after := #[{ on := 15, ground := Ground.data }, { on := 12, ground := Ground.guard }], guard := some (12, true) }) (v := ?_) rfl (by kernel_rfl) (by kernel_rfl) (by kernel_rfl) (fun _ _ _ h => h) (Or.inl ⟨by rfl, ?_⟩) (by first | trivial | assumption) ?_
                  rotate_left 1
                  · (intro W hSw; obtain ⟨⟨y0, y1, y2, y3, y4⟩, _⟩ := HLk.out W hSw; go_simp; (try (with_reducible rfl)))
                  try simp only [Act.put, List.setIfInBounds_toArray, List.set_cons_zero, List.set_cons_succ]
                  refine wpAnyH_take (i := 17) (oi := { dst := some 145, op := Op.binOp BinOp.eql 3 (Operand.tmp 144) (Operand.const (Value.int IntKind.i64 0)) 3, type := 4, pos := _, after := #[{ on := 16, ground := Ground.data }, { on := 12, ground := Ground.guard }], guard := some (12, true) }) (v := ?_) rfl (by kernel_rfl) (by kernel_rfl) (by kernel_rfl) (fun _ _ _ h => h) (Or.inl ⟨by rfl, ?_⟩) (by first | trivial | assumption) ?_
                  rotate_left 1
                  · (intro W hSw; go_simp; (try (with_reducible rfl)))
                  try simp only [Act.put, List.setIfInBounds_toArray, List.set_cons_zero, List.set_cons_succ]
                  refine wpAnyH_take (i := 18) (oi := { dst := some 146, op := Op.fieldAddr 28 (Operand.tmp 6) 0, type := 0, pos := _, after := #[{ on := 12, ground := Ground.guard }], guard := some (12, true) }) (v := ?_) rfl (by kernel_rfl) (by kernel_rfl) (by kernel_rfl) (fun _ _ _ h => h) (Or.inl ⟨by rfl, ?_⟩) (by first | trivial | assumption) ?_
                  rotate_left 1
                  · (intro W hSw; go_simp; (try (with_reducible rfl)))
                  try simp only [Act.put, List.setIfInBounds_toArray, List.set_cons_zero, List.set_cons_succ]
                  refine wpAnyH_take (i := 19) (oi := { dst := some 147, op := Op.load 3 (Operand.tmp 146), type := 3, pos := _, after := #[{ on := 18, ground := Ground.data }, { on := 12, ground := Ground.guard }], guard := some (12, true) }) (v := ?_) rfl (by kernel_rfl) (by kernel_rfl) (by kernel_rfl) (fun _ _ _ h => h) (Or.inl ⟨by rfl, ?_⟩) (by first | trivial | assumption) ?_
                  rotate_left 1
                  · (intro W hSw; obtain ⟨⟨y0, y1, y2, y3, y4⟩, _⟩ := HLk.out W hSw; go_simp; (try (with_reducible rfl)))
                  try simp only [Act.put, List.setIfInBounds_toArray, List.set_cons_zero, List.set_cons_succ]
                  refine wpAnyH_take (i := 20) (oi := { dst := some 148, op := Op.binOp BinOp.eql 3 (Operand.tmp 147) (Operand.const (Value.int IntKind.i64 4)) 3, type := 4, pos := _, after := #[{ on := 19, ground := Ground.data }, { on := 12, ground := Ground.guard }], guard := some (12, true) }) (v := ?_) rfl (by kernel_rfl) (by kernel_rfl) (by kernel_rfl) (fun _ _ _ h => h) (Or.inl ⟨by rfl, ?_⟩) (by first | trivial | assumption) ?_
                  rotate_left 1
                  · (intro W hSw; go_simp; (try (with_reducible rfl)))
                  try simp only [Act.put, List.setIfInBounds_toArray, List.set_cons_zero, List.set_cons_succ]
                  refine wpAnyH_take (i := 21) (oi := { dst := some 149, op := Op.move (Operand.tmp 148), type := 4, pos := _, after := #[{ on := 20, ground := Ground.data }, { on := 12, ground := Ground.chain }, { on := 12, ground := Ground.guard }], guard := some (12, true) }) (v := ?_) rfl (by kernel_rfl) (by kernel_rfl) (by kernel_rfl) (fun _ _ _ h => h) (Or.inl ⟨by rfl, ?_⟩) (by first | trivial | assumption) ?_
                  rotate_left 1
                  · (intro W hSw; go_simp; (try (with_reducible rfl)))
                  try simp only [Act.put, List.setIfInBounds_toArray, List.set_cons_zero, List.set_cons_succ]
                  refine wpAnyH_take (i := 22) (oi := { dst := some 150, op := Op.fieldAddr 28 (Operand.tmp 6) 0, type := 0, pos := _, after := #[{ on := 21, ground := Ground.guard }], guard := some (21, false) }) (v := ?_) rfl (by kernel_rfl) (by kernel_rfl) (by kernel_rfl) (fun _ _ _ h => h) (Or.inl ⟨by rfl, ?_⟩) (by first | trivial | assumption) ?_
                  rotate_left 1
                  · (intro W hSw; go_simp; (try (with_reducible rfl)))
                  try simp only [Act.put, List.setIfInBounds_toArray, List.set_cons_zero, List.set_cons_succ]
                  refine wpAnyH_take (i := 23) (oi := { dst := some 151, op := Op.load 3 (Operand.tmp 150), type := 3, pos := _, after := #[{ on := 22, ground := Ground.data }, { on := 21, ground := Ground.guard }], guard := some (21, false) }) (v := ?_) rfl (by kernel_rfl) (by kernel_rfl) (by kernel_rfl) (fun _ _ _ h => h) (Or.inl ⟨by rfl, ?_⟩) (by first | trivial | assumption) ?_
                  rotate_left 1
                  · (intro W hSw; obtain ⟨⟨y0, y1, y2, y3, y4⟩, _⟩ := HLk.out W hSw; go_simp; (try (with_reducible rfl)))
                  try simp only [Act.put, List.setIfInBounds_toArray, List.set_cons_zero, List.set_cons_succ]
                  refine wpAnyH_take (i := 24) (oi := { dst := some 152, op := Op.binOp BinOp.eql 3 (Operand.tmp 151) (Operand.const (Value.int IntKind.i64 5)) 3, type := 4, pos := _, after := #[{ on := 23, ground := Ground.data }, { on := 21, ground := Ground.guard }], guard := some (21, false) }) (v := ?_) rfl (by kernel_rfl) (by kernel_rfl) (by kernel_rfl) (fun _ _ _ h => h) (Or.inl ⟨by rfl, ?_⟩) (by first | trivial | assumption) ?_
                  rotate_left 1
                  · (intro W hSw; go_simp; (try (with_reducible rfl)))
                  try simp only [Act.put, List.setIfInBounds_toArray, List.set_cons_zero, List.set_cons_succ]
                  refine wpAnyH_take (i := 25) (oi := { dst := some 153, op := Op.pick (Operand.tmp 149) (Operand.const (Value.bool true)) (Operand.tmp 152), type := 4, pos := _, after := #[{ on := 21, ground := Ground.data }, { on := 24, ground := Ground.data }, { on := 12, ground := Ground.guard }], guard := some (12, true) }) (v := ?_) rfl (by kernel_rfl) (by kernel_rfl) (by kernel_rfl) (fun _ _ _ h => h) (Or.inl ⟨by rfl, ?_⟩) (by first | trivial | assumption) ?_
                  rotate_left 1
                  · (intro W hSw; go_simp; (try (with_reducible rfl)))
                  try simp only [Act.put, List.setIfInBounds_toArray, List.set_cons_zero, List.set_cons_succ]
                  refine wpAnyH_take (i := 26) (oi := { dst := some 154, op := Op.binOp BinOp.eql 4 (Operand.tmp 145) (Operand.tmp 153) 4, type := 4, pos := _, after := #[{ on := 17, ground := Ground.data }, { on := 25, ground := Ground.data }, { on := 12, ground := Ground.guard }], guard := some (12, true) }) (v := ?_) rfl (by kernel_rfl) (by kernel_rfl) (by kernel_rfl) (fun _ _ _ h => h) (Or.inl ⟨by rfl, ?_⟩) (by first | trivial | assumption) ?_
                  rotate_left 1
                  · (intro W hSw; go_simp; (try (with_reducible rfl)))
                  try simp only [Act.put, List.setIfInBounds_toArray, List.set_cons_zero, List.set_cons_succ]
                  refine wpAnyH_take (i := 27) (oi := { dst := some 155, op := Op.pick (Operand.tmp 140) (Operand.tmp 154) (Operand.const (Value.bool false)), type := 4, pos := _, after := #[{ on := 12, ground := Ground.data }, { on := 26, ground := Ground.data }], guard := none }) (v := ?_) rfl (by kernel_rfl) (by kernel_rfl) (by kernel_rfl) (fun _ _ _ h => h) (Or.inl ⟨by rfl, ?_⟩) (by first | trivial | assumption) ?_
                  rotate_left 1
                  · (intro W hSw; go_simp; (try (with_reducible rfl)))
                  try simp only [Act.put, List.setIfInBounds_toArray, List.set_cons_zero, List.set_cons_succ]
                  refine wpAnyH_take (i := 28) (oi := { dst := some 11, op := Op.assign (Operand.tmp 155), type := 4, pos := _, after := #[{ on := 27, ground := Ground.data }, { on := 21, ground := Ground.chain }, { on := 0, ground := Ground.phase }, { on := 1, ground := Ground.phase }, { on := 2, ground := Ground.phase }, { on := 3, ground := Ground.phase }, { on := 4, ground := Ground.phase }, { on := 5, ground := Ground.phase }, { on := 6, ground := Ground.phase }, { on := 7, ground := Ground.phase }, { on := 8, ground := Ground.phase }, { on := 9, ground := Ground.phase }, { on := 10, ground := Ground.phase }, { on := 11, ground := Ground.phase }, { on := 12, ground := Ground.phase }, { on := 13, ground := Ground.phase }, { on := 14, ground := Ground.phase }, { on := 15, ground := Ground.phase }, { on := 16, ground := Ground.phase }, { on := 17, ground := Ground.phase }, { on := 18, ground := Ground.phase }, { on := 19, ground := Ground.phase }, { on := 20, ground := Ground.phase }, { on := 21, ground := Ground.phase }, { on := 22, ground := Ground.phase }, { on := 23, ground := Ground.phase }, { on := 24, ground := Ground.phase }, { on := 25, ground := Ground.phase }, { on := 26, ground := Ground.phase }, { on := 27, ground := Ground.phase }], guard := none }) (v := ?_) rfl (by kernel_rfl) (by kernel_rfl) (by kernel_rfl) (fun _ _ _ h => h) (Or.inl ⟨by rfl, ?_⟩) (by first | trivial | assumption) ?_
                  rotate_left 1
                  · (intro W hSw; go_simp; (try (with_reducible rfl)))
                  try simp only [Act.put, List.setIfInBounds_toArray, List.set_cons_zero, List.set_cons_succ]
                  refine wpAnyH_done (by kernel_rfl) ?_ _
                  refine NoPanic.normal ?_
                  clear hIsT
                  go_wp2
                  exact ⟨⟨i + 1, by omega, by go_num, lw_stay HS.out HQ6.out.2.2 HQ6.out.1 HI.out HLEN.out HE0.out HQ6.out.2.1 hf7⟩, by simp [intOf]; omega⟩
              · have hIsT := fun W hW => by have := HIs.out W hW; rw [decide_eq_false hm] at this; exact this
                have he0 : er ≠ 0 := fun e2 => hm (her.1 e2).1
                have he1 : (er == 0) = false := by simpa using he0
                have HE0 : Hid (er ≠ 0) := he0
                clear he0 her hjx hjn
                try clear e
                refine wp_region_noPanic ?_
                refine wp_region_held_drew (S := fun W : World => w6.grownBy W none) (by kernel_rfl) (gb_drew (gb_refl w6 none)) (fun hgA => ?_)
                generalize w6.drew = Wd at hgA ⊢
                refine wpAnyH_take (i := 0) (oi := { dst := some 128, op := Op.move (Operand.tmp 3), type := 23, pos := _, after := #[], guard := none }) (v := ?_) rfl (by kernel_rfl) (by kernel_rfl) (by kernel_rfl) (fun _ _ _ h => h) (Or.inl ⟨by rfl, ?_⟩) (by first | trivial | assumption) ?_
                rotate_left 1
                · (intro W hSw; go_simp; (try (with_reducible rfl)))
                try simp only [Act.put, List.setIfInBounds_toArray, List.set_cons_zero, List.set_cons_succ]
                refine wpAnyH_take (i := 1) (oi := { dst := some 129, op := Op.nilCheck (Operand.tmp 128), type := 0, pos := _, after := #[{ on := 0, ground := Ground.data }], guard := none }) (v := ?_) rfl (by kernel_rfl) (by kernel_rfl) (by kernel_rfl) (fun _ _ _ h => h) (Or.inl ⟨by rfl, ?_⟩) (by first | trivial | assumption) ?_
                rotate_left 1
                · (intro W hSw; go_simp; (try (with_reducible rfl)))
                try simp only [Act.put, List.setIfInBounds_toArray, List.set_cons_zero, List.set_cons_succ]
                refine wpAnyH_take (i := 2) (oi := { dst := some 130, op := Op.fieldAddr 47 (Operand.tmp 129) 3, type := 0, pos := _, after := #[{ on := 1, ground := Ground.data }], guard := none }) (v := ?_) rfl (by kernel_rfl) (by kernel_rfl) (by kernel_rfl) (fun _ _ _ h => h) (Or.inl ⟨by rfl, ?_⟩) (by first | trivial | assumption) ?_
                rotate_left 1
                · (intro W hSw; go_simp; (try (with_reducible rfl)))
                try simp only [Act.put, List.setIfInBounds_toArray, List.set_cons_zero, List.set_cons_succ]
                refine wpAnyH_take (i := 3) (oi := { dst := some 131, op := Op.load 44 (Operand.tmp 130), type := 44, pos := _, after := #[{ on := 2, ground := Ground.data }], guard := none }) (v := ?_) rfl (by kernel_rfl) (by kernel_rfl) (by kernel_rfl) (fun _ _ _ h => h) (Or.inl ⟨by rfl, ?_⟩) (by first | trivial | assumption) ?_
                rotate_left 1
                · (intro W hSw; obtain ⟨⟨y0, y1, y2, y3, y4⟩, _⟩ := HLk.out W hSw; go_simp; (try (with_reducible rfl)))
                try simp only [Act.put, List.setIfInBounds_toArray, List.set_cons_zero, List.set_cons_succ]
                refine wpAnyH_take (i := 4) (oi := { dst := some 132, op := Op.move (Operand.tmp 3), type := 23, pos := _, after := #[], guard := none }) (v := ?_) rfl (by kernel_rfl) (by kernel_rfl) (by kernel_rfl) (fun _ _ _ h => h) (Or.inl ⟨by rfl, ?_⟩) (by first | trivial | assumption) ?_
                rotate_left 1
                · (intro W hSw; go_simp; (try (with_reducible rfl)))
                try simp only [Act.put, List.setIfInBounds_toArray, List.set_cons_zero, List.set_cons_succ]
                refine wpAnyH_take (i := 5) (oi := { dst := some 133, op := Op.nilCheck (Operand.tmp 132), type := 0, pos := _, after := #[{ on := 4, ground := Ground.data }], guard := none }) (v := ?_) rfl (by kernel_rfl) (by kernel_rfl) (by kernel_rfl) (fun _ _ _ h => h) (Or.inl ⟨by rfl, ?_⟩) (by first | trivial | assumption) ?_
                rotate_left 1
                · (intro W hSw; go_simp; (try (with_reducible rfl)))
                try simp only [Act.put, List.setIfInBounds_toArray, List.set_cons_zero, List.set_cons_succ]
                refine wpAnyH_take (i := 6) (oi := { dst := some 134, op := Op.fieldAddr 47 (Operand.tmp 133) 4, type := 0, pos := _, after := #[{ on := 5, ground := Ground.data }], guard := none }) (v := ?_) rfl (by kernel_rfl) (by kernel_rfl) (by kernel_rfl) (fun _ _ _ h => h) (Or.inl ⟨by rfl, ?_⟩) (by first | trivial | assumption) ?_
                rotate_left 1
                · (intro W hSw; go_simp; (try (with_reducible rfl)))
                try simp only [Act.put, List.setIfInBounds_toArray, List.set_cons_zero, List.set_cons_succ]
                refine wpAnyH_take (i := 7) (oi := { dst := some 135, op := Op.load 45 (Operand.tmp 134), type := 45, pos := _, after := #[{ on := 6, ground := Ground.data }], guard := none }) (v := ?_) rfl (by kernel_rfl) (by kernel_rfl) (by kernel_rfl) (fun _ _ _ h => h) (Or.inl ⟨by rfl, ?_⟩) (by first | trivial | assumption) ?_
                rotate_left 1
                · (intro W hSw; obtain ⟨⟨y0, y1, y2, y3, y4⟩, _⟩ := HLk.out W hSw; go_simp; (try (with_reducible rfl)))
                try simp only [Act.put, List.setIfInBounds_toArray, List.set_cons_zero, List.set_cons_succ]
                refine wpAnyH_take (i := 8) (oi := { dst := some 136, op := Op.move (Operand.tmp 7), type := 3, pos := _, after := #[], guard := none }) (v := ?_) rfl (by kernel_rfl) (by kernel_rfl) (by kernel_rfl) (fun _ _ _ h => h) (Or.inl ⟨by rfl, ?_⟩) (by first | trivial | assumption) ?_
                rotate_left 1
                · (intro W hSw; go_simp; (try (with_reducible rfl)))
                try simp only [Act.put, List.setIfInBounds_toArray, List.set_cons_zero, List.set_cons_succ]
                refine wpAnyH_take (i := 9) (oi := { dst := some 137, op := Op.indexAddr 45 (Operand.tmp 135) (Operand.tmp 136), type := 0, pos := _, after := #[{ on := 7, ground := Ground.data }, { on := 8, ground := Ground.data }], guard := none }) (v := ?_) rfl (by kernel_rfl) (by kernel_rfl) (by kernel_rfl) (fun _ _ _ h => h) (Or.inl ⟨by rfl, ?_⟩) (by first | trivial | assumption) ?_
                rotate_left 1
                · (intro W hSw; go_simp; (try (with_reducible rfl)))
                try simp only [Act.put, List.setIfInBounds_toArray, List.set_cons_zero, List.set_cons_succ]
                refine wpAnyH_take (i := 10) (oi := { dst := some 138, op := Op.load 26 (Operand.tmp 137), type := 26, pos := _, after := #[{ on := 9, ground := Ground.data }], guard := none }) (v := ?_) rfl (by kernel_rfl) (by kernel_rfl) (by kernel_rfl) (fun _ _ _ h => h) (Or.inl ⟨by rfl, ?_⟩) (by first | trivial | assumption) ?_
                rotate_left 1
                · (intro W hSw; obtain ⟨⟨y0, y1, y2, y3, y4⟩, _⟩ := HLk.out W hSw; go_simp; (try (with_reducible rfl)))
                try simp only [Act.put, List.setIfInBounds_toArray, List.set_cons_zero, List.set_cons_succ]
                refine wpAnyH_ready (rs := [11]) (by kernel_rfl) (by simp) ?_
                refine (AllReadyH.cons rfl (fun K hK => ?_) AllReadyH.nil)
                go_simp
                (with_reducible refine (hIsT Wd hgA).mono ?_)
                rintro e w7 ⟨rfl, hgn⟩
                have hf7 := gb_trans hgA hgn
                clear hgn
                refine hK.out _ _ hf7 (fun hS => ?_)
                clear hK K hS
                try simp only [Act.put, List.setIfInBounds_toArray, List.set_cons_zero, List.set_cons_succ]
                refine wpAnyH_take (i := 12) (oi := { dst := some 140, op := Op.move (Operand.tmp 139), type := 4, pos := _, after := #[{ on := 11, ground := Ground.data }, { on := 11, ground := Ground.chain }], guard := none }) (v := ?_) rfl (by kernel_rfl) (by kernel_rfl) (by kernel_rfl) (fun _ _ _ h => h) (Or.inl ⟨by rfl, ?_⟩) (by first | trivial | assumption) ?_
                rotate_left 1
                · (intro W hSw; go_simp; (try (with_reducible rfl)))
                try simp only [Act.put, List.setIfInBounds_toArray, List.set_cons_zero, List.set_cons_succ]
                refine wpAnyH_take (i := 13) (oi := { dst := some 141, op := Op.move (Operand.tmp 4), type := 55, pos := _, after := #[{ on := 12, ground := Ground.guard }], guard := some (12, true) }) (v := undef) rfl (by kernel_rfl) (by kernel_rfl) (by kernel_rfl) (fun _ _ _ h => h) (Or.inr ⟨by rfl, rfl⟩) (by first | trivial | assumption) ?_
                try simp only [Act.put, List.setIfInBounds_toArray, List.set_cons_zero, List.set_cons_succ]
                refine wpAnyH_take (i := 14) (oi := { dst := some 142, op := Op.move (Operand.tmp 7), type := 3, pos := _, after := #[{ on := 12, ground := Ground.guard }], guard := some (12, true) }) (v := undef) rfl (by kernel_rfl) (by kernel_rfl) (by kernel_rfl) (fun _ _ _ h => h) (Or.inr ⟨by rfl, rfl⟩) (by first | trivial | assumption) ?_
                try simp only [Act.put, List.setIfInBounds_toArray, List.set_cons_zero, List.set_cons_succ]
                refine wpAnyH_take (i := 15) (oi := { dst := some 143, op := Op.indexAddr 55 (Operand.tmp 141) (Operand.tmp 142), type := 0, pos := _, after := #[{ on := 13, ground := Ground.data }, { on := 14, ground := Ground.data }, { on := 12, ground := Ground.guard }], guard := some (12, true) }) (v := undef) rfl (by kernel_rfl) (by kernel_rfl) (by kernel_rfl) (fun _ _ _ h => h) (Or.inr ⟨by rfl, rfl⟩) (by first | trivial | assumption) ?_
                try simp only [Act.put, List.setIfInBounds_toArray, List.set_cons_zero, List.set_cons_succ]
                refine wpAnyH_take (i := 16) (oi := { dst := some 144, op := Op.load 3 (Operand.tmp 143), type := 3, pos := _, after := #[{ on := 15, ground := Ground.data }, { on := 12, ground := Ground.guard }], guard := some (12, true) }) (v := undef) rfl (by kernel_rfl) (by kernel_rfl) (by kernel_rfl) (fun _ _ _ h => h) (Or.inr ⟨by rfl, rfl⟩) (by first | trivial | assumption) ?_
                try simp only [Act.put, List.setIfInBounds_toArray, List.set_cons_zero, List.set_cons_succ]
                refine wpAnyH_take (i := 17) (oi := { dst := some 145, op := Op.binOp BinOp.eql 3 (Operand.tmp 144) (Operand.const (Value.int IntKind.i64 0)) 3, type := 4, pos := _, after := #[{ on := 16, ground := Ground.data }, { on := 12, ground := Ground.guard }], guard := some (12, true) }) (v := undef) rfl (by kernel_rfl) (by kernel_rfl) (by kernel_rfl) (fun _ _ _ h => h) (Or.inr ⟨by rfl, rfl⟩) (by first | trivial | assumption) ?_
                try simp only [Act.put, List.setIfInBounds_toArray, List.set_cons_zero, List.set_cons_succ]
                refine wpAnyH_take (i := 18) (oi := { dst := some 146, op := Op.fieldAddr 28 (Operand.tmp 6) 0, type := 0, pos := _, after := #[{ on := 12, ground := Ground.guard }], guard := some (12, true) }) (v := undef) rfl (by kernel_rfl) (by kernel_rfl) (by kernel_rfl) (fun _ _ _ h => h) (Or.inr ⟨by rfl, rfl⟩) (by first | trivial | assumption) ?_
                try simp only [Act.put, List.setIfInBounds_toArray, List.set_cons_zero, List.set_cons_succ]
                refine wpAnyH_take (i := 19) (oi := { dst := some 147, op := Op.load 3 (Operand.tmp 146), type := 3, pos := _, after := #[{ on := 18, ground := Ground.data }, { on := 12, ground := Ground.guard }], guard := some (12, true) }) (v := undef) rfl (by kernel_rfl) (by kernel_rfl) (by kernel_rfl) (fun _ _ _ h => h) (Or.inr ⟨by rfl, rfl⟩) (by first | trivial | assumption) ?_
                try simp only [Act.put, List.setIfInBounds_toArray, List.set_cons_zero, List.set_cons_succ]
                refine wpAnyH_take (i := 20) (oi := { dst := some 148, op := Op.binOp BinOp.eql 3 (Operand.tmp 147) (Operand.const (Value.int IntKind.i64 4)) 3, type := 4, pos := _, after := #[{ on := 19, ground := Ground.data }, { on := 12, ground := Ground.guard }], guard := some (12, true) }) (v := undef) rfl (by kernel_rfl) (by kernel_rfl) (by kernel_rfl) (fun _ _ _ h => h) (Or.inr ⟨by rfl, rfl⟩) (by first | trivial | assumption) ?_
                try simp only [Act.put, List.setIfInBounds_toArray, List.set_cons_zero, List.set_cons_succ]
                refine wpAnyH_take (i := 21) (oi := { dst := some 149, op := Op.move (Operand.tmp 148), type := 4, pos := _, after := #[{ on := 20, ground := Ground.data }, { on := 12, ground := Ground.chain }, { on := 12, ground := Ground.guard }], guard := some (12, true) }) (v := undef) rfl (by kernel_rfl) (by kernel_rfl) (by kernel_rfl) (fun _ _ _ h => h) (Or.inr ⟨by rfl, rfl⟩) (by first | trivial | assumption) ?_
                try simp only [Act.put, List.setIfInBounds_toArray, List.set_cons_zero, List.set_cons_succ]
                refine wpAnyH_take (i := 22) (oi := { dst := some 150, op := Op.fieldAddr 28 (Operand.tmp 6) 0, type := 0, pos := _, after := #[{ on := 21, ground := Ground.guard }], guard := some (21, false) }) (v := undef) rfl (by kernel_rfl) (by kernel_rfl) (by kernel_rfl) (fun _ _ _ h => h) (Or.inr ⟨by rfl, rfl⟩) (by first | trivial | assumption) ?_
                try simp only [Act.put, List.setIfInBounds_toArray, List.set_cons_zero, List.set_cons_succ]
                refine wpAnyH_take (i := 23) (oi := { dst := some 151, op := Op.load 3 (Operand.tmp 150), type := 3, pos := _, after := #[{ on := 22, ground := Ground.data }, { on := 21, ground := Ground.guard }], guard := some (21, false) }) (v := undef) rfl (by kernel_rfl) (by kernel_rfl) (by kernel_rfl) (fun _ _ _ h => h) (Or.inr ⟨by rfl, rfl⟩) (by first | trivial | assumption) ?_
                try simp only [Act.put, List.setIfInBounds_toArray, List.set_cons_zero, List.set_cons_succ]
                refine wpAnyH_take (i := 24) (oi := { dst := some 152, op := Op.binOp BinOp.eql 3 (Operand.tmp 151) (Operand.const (Value.int IntKind.i64 5)) 3, type := 4, pos := _, after := #[{ on := 23, ground := Ground.data }, { on := 21, ground := Ground.guard }], guard := some (21, false) }) (v := undef) rfl (by kernel_rfl) (by kernel_rfl) (by kernel_rfl) (fun _ _ _ h => h) (Or.inr ⟨by rfl, rfl⟩) (by first | trivial | assumption) ?_
                try simp only [Act.put, List.setIfInBounds_toArray, List.set_cons_zero, List.set_cons_succ]
                refine wpAnyH_take (i := 25) (oi := { dst := some 153, op := Op.pick (Operand.tmp 149) (Operand.const (Value.bool true)) (Operand.tmp 152), type := 4, pos := _, after := #[{ on := 21, ground := Ground.data }, { on := 24, ground := Ground.data }, { on := 12, ground := Ground.guard }], guard := some (12, true) }) (v := undef) rfl (by kernel_rfl) (by kernel_rfl) (by kernel_rfl) (fun _ _ _ h => h) (Or.inr ⟨by rfl, rfl⟩) (by first | trivial | assumption) ?_
                try simp only [Act.put, List.setIfInBounds_toArray, List.set_cons_zero, List.set_cons_succ]
                refine wpAnyH_take (i := 26) (oi := { dst := some 154, op := Op.binOp BinOp.eql 4 (Operand.tmp 145) (Operand.tmp 153) 4, type := 4, pos := _, after := #[{ on := 17, ground := Ground.data }, { on := 25, ground := Ground.data }, { on := 12, ground := Ground.guard }], guard := some (12, true) }) (v := undef) rfl (by kernel_rfl) (by kernel_rfl) (by kernel_rfl) (fun _ _ _ h => h) (Or.inr ⟨by rfl, rfl⟩) (by first | trivial | assumption) ?_
                try simp only [Act.put, List.setIfInBounds_toArray, List.set_cons_zero, List.set_cons_succ]
                refine wpAnyH_take (i := 27) (oi := { dst := some 155, op := Op.pick (Operand.tmp 140) (Operand.tmp 154) (Operand.const (Value.bool false)), type := 4, pos := _, after := #[{ on := 12, ground := Ground.data }, { on := 26, ground := Ground.data }], guard := none }) (v := ?_) rfl (by kernel_rfl) (by kernel_rfl) (by kernel_rfl) (fun _ _ _ h => h) (Or.inl ⟨by rfl, ?_⟩) (by first | trivial | assumption) ?_
                rotate_left 1
                · (intro W hSw; go_simp; (try (with_reducible rfl)))
                try simp only [Act.put, List.setIfInBounds_toArray, List.set_cons_zero, List.set_cons_succ]
                refine wpAnyH_take (i := 28) (oi := { dst := some 11, op := Op.assign (Operand.tmp 155), type := 4, pos := _, after := #[{ on := 27, ground := Ground.data }, { on := 21, ground := Ground.chain }, { on := 0, ground := Ground.phase }, { on := 1, ground := Ground.phase }, { on := 2, ground := Ground.phase }, { on := 3, ground := Ground.phase }, { on := 4, ground := Ground.phase }, { on := 5, ground := Ground.phase }, { on := 6, ground := Ground.phase }, { on := 7, ground := Ground.phase }, { on := 8, ground := Ground.phase }, { on := 9, ground := Ground.phase }, { on := 10, ground := Ground.phase }, { on := 11, ground := Ground.phase }, { on := 12, ground := Ground.phase }, { on := 13, ground := Ground.phase }, { on := 14, ground := Ground.phase }, { on := 15, ground := Ground.phase }, { on := 16, ground := Ground.phase }, { on := 17, ground := Ground.phase }, { on := 18, ground := Ground.phase }, { on := 19, ground := Ground.phase }, { on := 20, ground := Ground.phase }, { on := 21, ground := Ground.phase }, { on := 22, ground := Ground.phase }, { on := 23, ground := Ground.phase }, { on := 24, ground := Ground.phase }, { on := 25, ground := Ground.phase }, { on := 26, ground := Ground.phase }, { on := 27, ground := Ground.phase }], guard := none }) (v := ?_) rfl (by kernel_rfl) (by kernel_rfl) (by kernel_rfl) (fun _ _ _ h => h) (Or.inl ⟨by rfl, ?_⟩) (by first | trivial | assumption) ?_
                rotate_left 1
                · (intro W hSw; go_simp; (try (with_reducible rfl)))
                try simp only [Act.put, List.setIfInBounds_toArray, List.set_cons_zero, List.set_cons_succ]
                refine wpAnyH_done (by kernel_rfl) ?_ _
                refine NoPanic.normal ?_
                clear hIsT
                go_wp2
                exact ⟨⟨i + 1, by omega, by go_num, lw_stay HS.out HQ6.out.2.2 HQ6.out.1 HI.out HLEN.out HE0.out HQ6.out.2.1 hf7⟩, by simp [intOf]; omega⟩
            by_cases c6 : d0 = 6
            · as_aux_lemma =>
              subst c6
              obtain ⟨er, her, hcall⟩ := HQ5.out.pc (HQ5.out.gw.cdrop (by omega) h64)
              have hcl := hcall.mono (R' := fun y w6 => y = .returned (.int .i64 er) ∧ ∃ D' S' tg6 tc6, Hid (Mv D D' 0 ∧ Mem S S' er H (none) ∧ Qa w w6 P1 wb (i + 1) D' lsb vs Y S' cl ins (.slice (some ⟨ig, 0, none⟩) ins.length ic)) ∧ Hid (∀ W, w6.grownBy W none → Calls Tryz.prog 27 #[.pointer (some ⟨D.lb, 0, none⟩), .int .u64 H] W fun y w' => y = .returned (.bool (decide (H ∈ D.xl))) ∧ W.grownBy w' none) ∧ Hid (∀ W, w6.grownBy W none → (W.cell? ⟨wb, 3, none⟩ = some (.pointer (some ⟨D.lb, 0, none⟩)) ∧ W.cell? ⟨wb, 4, none⟩ = some (.slice (some ⟨tg6, 0, none⟩) D.xt.length tc6) ∧ W.cell? ⟨tg6, ki, none⟩ = some (.int .u64 (H : Nat)) ∧ W.cell? ⟨ig, ki, none⟩ = some (.int .i64 (j : Nat)) ∧ W.cell? ⟨wr.heap.size, 0, none⟩ = some (.int .i64 6)) ∧ W.frozen? ⟨ig, ki, none⟩ = false)) (by
                rintro y w6 ⟨rfl, hK6, D', S', hmv, hme, hQ6⟩
                obtain ⟨tg6, tc6, hl⟩ := hQ6.look hmv HH.out HJ.out (hK6.box HB5.out hbo.out) rfl
                exact ⟨rfl, D', S', tg6, tc6, ⟨hmv, hme, hQ6⟩, hQ6.isL hmv H, hl⟩)
              clear hcall
              go_wp2_with (first | (go_at_call 18; go_must (refine (hwb _).mono ?_); rintro y w' ⟨rfl, rfl⟩) | (go_at_call 25; go_must (with_reducible refine hcl.mono ?_); rintro y w6 ⟨rfl, D', S', tg6, tc6, HQ6, HIs, HLk⟩) | (go_at_call 16; go_must (refine (num_any _ _).mono ?_); rintro y w' ⟨rfl, rfl⟩) | fail)
              clear hcl u0 u2 p0 p1 p2 p3 q1 q4 hk2 hwb
              by_cases hm : H ∈ D.xl
              · have hIsT := fun W hW => by have := HIs.out W hW; rw [decide_eq_true hm] at this; exact this
                by_cases e : j = 0
                · have ej : ((j : Int) == 0) = true := by simp [e]
                  have he0 : er ≠ 0 := fun e2 => (hjn e _ _ (her.1 e2).choose_spec.choose_spec)
                  have he1 : (er == 0) = false := by simpa using he0
                  have HE0 : Hid (er ≠ 0) := he0
                  clear he0 her hjx hjn
                  try clear e
                  refine wp_region_noPanic ?_
                  refine wp_region_held_drew (S := fun W : World => w6.grownBy W none) (by kernel_rfl) (gb_drew (gb_refl w6 none)) (fun hgA => ?_)
                  generalize w6.drew = Wd at hgA ⊢
                  refine wpAnyH_take (i := 0) (oi := { dst := some 128, op := Op.move (Operand.tmp 3), type := 23, pos := _, after := #[], guard := none }) (v := ?_) rfl (by kernel_rfl) (by kernel_rfl) (by kernel_rfl) (fun _ _ _ h => h) (Or.inl ⟨by rfl, ?_⟩) (by first | trivial | assumption) ?_
                  rotate_left 1
                  · (intro W hSw; go_simp; (try (with_reducible rfl)))
                  try simp only [Act.put, List.setIfInBounds_toArray, List.set_cons_zero, List.set_cons_succ]
                  refine wpAnyH_take (i := 1) (oi := { dst := some 129, op := Op.nilCheck (Operand.tmp 128), type := 0, pos := _, after := #[{ on := 0, ground := Ground.data }], guard := none }) (v := ?_) rfl (by kernel_rfl) (by kernel_rfl) (by kernel_rfl) (fun _ _ _ h => h) (Or.inl ⟨by rfl, ?_⟩) (by first | trivial | assumption) ?_
                  rotate_left 1
                  · (intro W hSw; go_simp; (try (with_reducible rfl)))
                  try simp only [Act.put, List.setIfInBounds_toArray, List.set_cons_zero, List.set_cons_succ]
                  refine wpAnyH_take (i := 2) (oi := { dst := some 130, op := Op.fieldAddr 47 (Operand.tmp 129) 3, type := 0, pos := _, after := #[{ on := 1, ground := Ground.data }], guard := none }) (v := ?_) rfl (by kernel_rfl) (by kernel_rfl) (by kernel_rfl) (fun _ _ _ h => h) (Or.inl ⟨by rfl, ?_⟩) (by first | trivial | assumption) ?_
                  rotate_left 1
                  · (intro W hSw; go_simp; (try (with_reducible rfl)))
                  try simp only [Act.put, List.setIfInBounds_toArray, List.set_cons_zero, List.set_cons_succ]
                  refine wpAnyH_take (i := 3) (oi := { dst := some 131, op := Op.load 44 (Operand.tmp 130), type := 44, pos := _, after := #[{ on := 2, ground := Ground.data }], guard := none }) (v := ?_) rfl (by kernel_rfl) (by kernel_rfl) (by kernel_rfl) (fun _ _ _ h => h) (Or.inl ⟨by rfl, ?_⟩) (by first | trivial | assumption) ?_
                  rotate_left 1
                  · (intro W hSw; obtain ⟨⟨y0, y1, y2, y3, y4⟩, _⟩ := HLk.out W hSw; go_simp; (try (with_reducible rfl)))
                  try simp only [Act.put, List.setIfInBounds_toArray, List.set_cons_zero, List.set_cons_succ]
                  refine wpAnyH_take (i := 4) (oi := { dst := some 132, op := Op.move (Operand.tmp 3), type := 23, pos := _, after := #[], guard := none }) (v := ?_) rfl (by kernel_rfl) (by kernel_rfl) (by kernel_rfl) (fun _ _ _ h => h) (Or.inl ⟨by rfl, ?_⟩) (by first | trivial | assumption) ?_
                  rotate_left 1
                  · (intro W hSw; go_simp; (try (with_reducible rfl)))
                  try simp only [Act.put, List.setIfInBounds_toArray, List.set_cons_zero, List.set_cons_succ]
                  refine wpAnyH_take (i := 5) (oi := { dst := some 133, op := Op.nilCheck (Operand.tmp 132), type := 0, pos := _, after := #[{ on := 4, ground := Ground.data }], guard := none }) (v := ?_) rfl (by kernel_rfl) (by kernel_rfl) (by kernel_rfl) (fun _ _ _ h => h) (Or.inl ⟨by rfl, ?_⟩) (by first | trivial | assumption) ?_
                  rotate_left 1
                  · (intro W hSw; go_simp; (try (with_reducible rfl)))
                  try simp only [Act.put, List.setIfInBounds_toArray, List.set_cons_zero, List.set_cons_succ]
                  refine wpAnyH_take (i := 6) (oi := { dst := some 134, op := Op.fieldAddr 47 (Operand.tmp 133) 4, type := 0, pos := _, after := #[{ on := 5, ground := Ground.data }], guard := none }) (v := ?_) rfl (by kernel_rfl) (by kernel_rfl) (by kernel_rfl) (fun _ _ _ h => h) (Or.inl ⟨by rfl, ?_⟩) (by first | trivial | assumption) ?_
                  rotate_left 1
                  · (intro W hSw; go_simp; (try (with_reducible rfl)))
                  try simp only [Act.put, List.setIfInBounds_toArray, List.set_cons_zero, List.set_cons_succ]
                  refine wpAnyH_take (i := 7) (oi := { dst := some 135, op := Op.load 45 (Operand.tmp 134), type := 45, pos := _, after := #[{ on := 6, ground := Ground.data }], guard := none }) (v := ?_) rfl (by kernel_rfl) (by kernel_rfl) (by kernel_rfl) (fun _ _ _ h => h) (Or.inl ⟨by rfl, ?_⟩) (by first | trivial | assumption) ?_
                  rotate_left 1
                  · (intro W hSw; obtain ⟨⟨y0, y1, y2, y3, y4⟩, _⟩ := HLk.out W hSw; go_simp; (try (with_reducible rfl)))
                  try simp only [Act.put, List.setIfInBounds_toArray, List.set_cons_zero, List.set_cons_succ]
                  refine wpAnyH_take (i := 8) (oi := { dst := some 136, op := Op.move (Operand.tmp 7), type := 3, pos := _, after := #[], guard := none }) (v := ?_) rfl (by kernel_rfl) (by kernel_rfl) (by kernel_rfl) (fun _ _ _ h => h) (Or.inl ⟨by rfl, ?_⟩) (by first | trivial | assumption) ?_
                  rotate_left 1
                  · (intro W hSw; go_simp; (try (with_reducible rfl)))
                  try simp only [Act.put, List.setIfInBounds_toArray, List.set_cons_zero, List.set_cons_succ]
                  refine wpAnyH_take (i := 9) (oi := { dst := some 137, op := Op.indexAddr 45 (Operand.tmp 135) (Operand.tmp 136), type := 0, pos := _, after := #[{ on := 7, ground := Ground.data }, { on := 8, ground := Ground.data }], guard := none }) (v := ?_) rfl (by kernel_rfl) (by kernel_rfl) (by kernel_rfl) (fun _ _ _ h => h) (Or.inl ⟨by rfl, ?_⟩) (by first | trivial | assumption) ?_
                  rotate_left 1
                  · (intro W hSw; go_simp; (try (with_reducible rfl)))
                  try simp only [Act.put, List.setIfInBounds_toArray, List.set_cons_zero, List.set_cons_succ]
                  refine wpAnyH_take (i := 10) (oi := { dst := some 138, op := Op.load 26 (Operand.tmp 137), type := 26, pos := _, after := #[{ on := 9, ground := Ground.data }], guard := none }) (v := ?_) rfl (by kernel_rfl) (by kernel_rfl) (by kernel_rfl) (fun _ _ _ h => h) (Or.inl ⟨by rfl, ?_⟩) (by first | trivial | assumption) ?_
                  rotate_left 1
                  · (intro W hSw; obtain ⟨⟨y0, y1, y2, y3, y4⟩, _⟩ := HLk.out W hSw; go_simp; (try (with_reducible rfl)))
                  try simp only [Act.put, List.setIfInBounds_toArray, List.set_cons_zero, List.set_cons_succ]
                  refine wpAnyH_ready (rs := [11]) (by kernel_rfl) (by simp) ?_
                  refine (AllReadyH.cons rfl (fun K hK => ?_) AllReadyH.nil)
                  go_simp
                  (with_reducible refine (hIsT Wd hgA).mono ?_)
                  rintro e w7 ⟨rfl, hgn⟩
                  have hf7 := gb_trans hgA hgn
                  clear hgn
                  refine hK.out _ _ hf7 (fun hS => ?_)
                  clear hK K hS
                  try simp only [Act.put, List.setIfInBounds_toArray, List.set_cons_zero, List.set_cons_succ]
                  refine wpAnyH_take (i := 12) (oi := { dst := some 140, op := Op.move (Operand.tmp 139), type := 4, pos := _, after := #[{ on := 11, ground := Ground.data }, { on := 11, ground := Ground.chain }], guard := none }) (v := ?_) rfl (by kernel_rfl) (by kernel_rfl) (by kernel_rfl) (fun _ _ _ h => h) (Or.inl ⟨by rfl, ?_⟩) (by first | trivial | assumption) ?_
                  rotate_left 1
                  · (intro W hSw; go_simp; (try (with_reducible rfl)))
                  try simp only [Act.put, List.setIfInBounds_toArray, List.set_cons_zero, List.set_cons_succ]
                  refine wpAnyH_take (i := 13) (oi := { dst := some 141, op := Op.move (Operand.tmp 4), type := 55, pos := _, after := #[{ on := 12, ground := Ground.guard }], guard := some (12, true) }) (v := ?_) rfl (by kernel_rfl) (by kernel_rfl) (by kernel_rfl) (fun _ _ _ h => h) (Or.inl ⟨by rfl, ?_⟩) (by first | trivial | assumption) ?_
                  rotate_left 1
                  · (intro W hSw; go_simp; (try (with_reducible rfl)))
                  try simp only [Act.put, List.setIfInBounds_toArray, List.set_cons_zero, List.set_cons_succ]
                  refine wpAnyH_take (i := 14) (oi := { dst := some 142, op := Op.move (Operand.tmp 7), type := 3, pos := _, after := #[{ on := 12, ground := Ground.guard }], guard := some (12, true) }) (v := ?_) rfl (by kernel_rfl) (by kernel_rfl) (by kernel_rfl) (fun _ _ _ h => h) (Or.inl ⟨by rfl, ?_⟩) (by first | trivial | assumption) ?_
                  rotate_left 1
                  · (intro W hSw; go_simp; (try (with_reducible rfl)))
                  try simp only [Act.put, List.setIfInBounds_toArray, List.set_cons_zero, List.set_cons_succ]
                  refine wpAnyH_take (i := 15) (oi := { dst := some 143, op := Op.indexAddr 55 (Operand.tmp 141) (Operand.tmp 142), type := 0, pos := _, after := #[{ on := 13, ground := Ground.data }, { on := 14, ground := Ground.data }, { on := 12, ground := Ground.guard }], guard := some (12, true) }) (v := ?_) rfl (by kernel_rfl) (by kernel_rfl) (by kernel_rfl) (fun _ _ _ h => h) (Or.inl ⟨by rfl, ?_⟩) (by first | trivial | assumption) ?_
                  rotate_left 1
                  · (intro W hSw; go_simp; (try (with_reducible rfl)))
                  try simp only [Act.put, List.setIfInBounds_toArray, List.set_cons_zero, List.set_cons_succ]
                  refine wpAnyH_take (i := 16) (oi := { dst := some 144, op := Op.load 3 (Operand.tmp 143), type := 3, pos := _, after := #[{ on := 15, ground := Ground.data }, { on := 12, ground := Ground.guard }], guard := some (12, true) }) (v := ?_) rfl (by kernel_rfl) (by kernel_rfl) (by kernel_rfl) (fun _ _ _ h => h) (Or.inl ⟨by rfl, ?_⟩) (by first | trivial | assumption) ?_
                  rotate_left 1
                  · (intro W hSw; obtain ⟨⟨y0, y1, y2, y3, y4⟩, _⟩ := HLk.out W hSw; go_simp; (try (with_reducible rfl)))
                  try simp only [Act.put, List.setIfInBounds_toArray, List.set_cons_zero, List.set_cons_succ]
                  refine wpAnyH_take (i := 17) (oi := { dst := some 145, op := Op.binOp BinOp.eql 3 (Operand.tmp 144) (Operand.const (Value.int IntKind.i64 0)) 3, type := 4, pos := _, after := #[{ on := 16, ground := Ground.data }, { on := 12, ground := Ground.guard }], guard := some (12, true) }) (v := ?_) rfl (by kernel_rfl) (by kernel_rfl) (by kernel_rfl) (fun _ _ _ h => h) (Or.inl ⟨by rfl, ?_⟩) (by first | trivial | assumption) ?_
                  rotate_left 1
                  · (intro W hSw; go_simp; (try (with_reducible rfl)))
                  try simp only [Act.put, List.setIfInBounds_toArray, List.set_cons_zero, List.set_cons_succ]
                  refine wpAnyH_take (i := 18) (oi := { dst := some 146, op := Op.fieldAddr 28 (Operand.tmp 6) 0, type := 0, pos := _, after := #[{ on := 12, ground := Ground.guard }], guard := some (12, true) }) (v := ?_) rfl (by kernel_rfl) (by kernel_rfl) (by kernel_rfl) (fun _ _ _ h => h) (Or.inl ⟨by rfl, ?_⟩) (by first | trivial | assumption) ?_
                  rotate_left 1
                  · (intro W hSw; go_simp; (try (with_reducible rfl)))
                  try simp only [Act.put, List.setIfInBounds_toArray, List.set_cons_zero, List.set_cons_succ]
                  refine wpAnyH_take (i := 19) (oi := { dst := some 147, op := Op.load 3 (Operand.tmp 146), type := 3, pos := _, after := #[{ on := 18, ground := Ground.data }, { on := 12, ground := Ground.guard }], guard := some (12, true) }) (v := ?_) rfl (by kernel_rfl) (by kernel_rfl) (by kernel_rfl) (fun _ _ _ h => h) (Or.inl ⟨by rfl, ?_⟩) (by first | trivial | assumption) ?_
                  rotate_left 1
                  · (intro W hSw; obtain ⟨⟨y0, y1, y2, y3, y4⟩, _⟩ := HLk.out W hSw; go_simp; (try (with_reducible rfl)))
                  try simp only [Act.put, List.setIfInBounds_toArray, List.set_cons_zero, List.set_cons_succ]
                  refine wpAnyH_take (i := 20) (oi := { dst := some 148, op := Op.binOp BinOp.eql 3 (Operand.tmp 147) (Operand.const (Value.int IntKind.i64 4)) 3, type := 4, pos := _, after := #[{ on := 19, ground := Ground.data }, { on := 12, ground := Ground.guard }], guard := some (12, true) }) (v := ?_) rfl (by kernel_rfl) (by kernel_rfl) (by kernel_rfl) (fun _ _ _ h => h) (Or.inl ⟨by rfl, ?_⟩) (by first | trivial | assumption) ?_
                  rotate_left 1
                  · (intro W hSw; go_simp; (try (with_reducible rfl)))
                  try simp only [Act.put, List.setIfInBounds_toArray, List.set_cons_zero, List.set_cons_succ]
                  refine wpAnyH_take (i := 21) (oi := { dst := some 149, op := Op.move (Operand.tmp 148), type := 4, pos := _, after := #[{ on := 20, ground := Ground.data }, { on := 12, ground := Ground.chain }, { on := 12, ground := Ground.guard }], guard := some (12, true) }) (v := ?_) rfl (by kernel_rfl) (by kernel_rfl) (by kernel_rfl) (fun _ _ _ h => h) (Or.inl ⟨by rfl, ?_⟩) (by first | trivial | assumption) ?_
                  rotate_left 1
                  · (intro W hSw; go_simp; (try (with_reducible rfl)))
                  try simp only [Act.put, List.setIfInBounds_toArray, List.set_cons_zero, List.set_cons_succ]
                  refine wpAnyH_take (i := 22) (oi := { dst := some 150, op := Op.fieldAddr 28 (Operand.tmp 6) 0, type := 0, pos := _, after := #[{ on := 21, ground := Ground.guard }], guard := some (21, false) }) (v := ?_) rfl (by kernel_rfl) (by kernel_rfl) (by kernel_rfl) (fun _ _ _ h => h) (Or.inl ⟨by rfl, ?_⟩) (by first | trivial | assumption) ?_
                  rotate_left 1
                  · (intro W hSw; go_simp; (try (with_reducible rfl)))
                  try simp only [Act.put, List.setIfInBounds_toArray, List.set_cons_zero, List.set_cons_succ]
                  refine wpAnyH_take (i := 23) (oi := { dst := some 151, op := Op.load 3 (Operand.tmp 150), type := 3, pos := _, after := #[{ on := 22, ground := Ground.data }, { on := 21, ground := Ground.guard }], guard := some (21, false) }) (v := ?_) rfl (by kernel_rfl) (by kernel_rfl) (by kernel_rfl) (fun _ _ _ h => h) (Or.inl ⟨by rfl, ?_⟩) (by first | trivial | assumption) ?_
                  rotate_left 1
                  · (intro W hSw; obtain ⟨⟨y0, y1, y2, y3, y4⟩, _⟩ := HLk.out W hSw; go_simp; (try (with_reducible rfl)))
                  try simp only [Act.put, List.setIfInBounds_toArray, List.set_cons_zero, List.set_cons_succ]
                  refine wpAnyH_take (i := 24) (oi := { dst := some 152, op := Op.binOp BinOp.eql 3 (Operand.tmp 151) (Operand.const (Value.int IntKind.i64 5)) 3, type := 4, pos := _, after := #[{ on := 23, ground := Ground.data }, { on := 21, ground := Ground.guard }], guard := some (21, false) }) (v := ?_) rfl (by kernel_rfl) (by kernel_rfl) (by kernel_rfl) (fun _ _ _ h => h) (Or.inl ⟨by rfl, ?_⟩) (by first | trivial | assumption) ?_
                  rotate_left 1
                  · (intro W hSw; go_simp; (try (with_reducible rfl)))
                  try simp only [Act.put, List.setIfInBounds_toArray, List.set_cons_zero, List.set_cons_succ]
                  refine wpAnyH_take (i := 25) (oi := { dst := some 153, op := Op.pick (Operand.tmp 149) (Operand.const (Value.bool true)) (Operand.tmp 152), type := 4, pos := _, after := #[{ on := 21, ground := Ground.data }, { on := 24, ground := Ground.data }, { on := 12, ground := Ground.guard }], guard := some (12, true) }) (v := ?_) rfl (by kernel_rfl) (by kernel_rfl) (by kernel_rfl) (fun _ _ _ h => h) (Or.inl ⟨by rfl, ?_⟩) (by first | trivial | assumption) ?_
                  rotate_left 1
                  · (intro W hSw; go_simp; (try (with_reducible rfl)))
                  try simp only [Act.put, List.setIfInBounds_toArray, List.set_cons_zero, List.set_cons_succ]
                  refine wpAnyH_take (i := 26) (oi := { dst := some 154, op := Op.binOp BinOp.eql 4 (Operand.tmp 145) (Operand.tmp 153) 4, type := 4, pos := _, after := #[{ on := 17, ground := Ground.data }, { on := 25, ground := Ground.data }, { on := 12, ground := Ground.guard }], guard := some (12, true) }) (v := ?_) rfl (by kernel_rfl) (by kernel_rfl) (by kernel_rfl) (fun _ _ _ h => h) (Or.inl ⟨by rfl, ?_⟩) (by first | trivial | assumption) ?_
                  rotate_left 1
                  · (intro W hSw; go_simp; (try (with_reducible rfl)))
                  try simp only [Act.put, List.setIfInBounds_toArray, List.set_cons_zero, List.set_cons_succ]
                  refine wpAnyH_take (i := 27) (oi := { dst := some 155, op := Op.pick (Operand.tmp 140) (Operand.tmp 154) (Operand.const (Value.bool false)), type := 4, pos := _, after := #[{ on := 12, ground := Ground.data }, { on := 26, ground := Ground.data }], guard := none }) (v := ?_) rfl (by kernel_rfl) (by kernel_rfl) (by kernel_rfl) (fun _ _ _ h => h) (Or.inl ⟨by rfl, ?_⟩) (by first | trivial | assumption) ?_
                  rotate_left 1
                  · (intro W hSw; go_simp; (try (with_reducible rfl)))
                  try simp only [Act.put, List.setIfInBounds_toArray, List.set_cons_zero, List.set_cons_succ]
                  refine wpAnyH_take (i := 28) (oi := { dst := some 11, op := Op.assign (Operand.tmp 155), type := 4, pos := _, after := #[{ on := 27, ground := Ground.data }, { on := 21, ground := Ground.chain }, { on := 0, ground := Ground.phase }, { on := 1, ground := Ground.phase }, { on := 2, ground := Ground.phase }, { on := 3, ground := Ground.phase }, { on := 4, ground := Ground.phase }, { on := 5, ground := Ground.phase }, { on := 6, ground := Ground.phase }, { on := 7, ground := Ground.phase }, { on := 8, ground := Ground.phase }, { on := 9, ground := Ground.phase }, { on := 10, ground := Ground.phase }, { on := 11, ground := Ground.phase }, { on := 12, ground := Ground.phase }, { on := 13, ground := Ground.phase }, { on := 14, ground := Ground.phase }, { on := 15, ground := Ground.phase }, { on := 16, ground := Ground.phase }, { on := 17, ground := Ground.phase }, { on := 18, ground := Ground.phase }, { on := 19, ground := Ground.phase }, { on := 20, ground := Ground.phase }, { on := 21, ground := Ground.phase }, { on := 22, ground := Ground.phase }, { on := 23, ground := Ground.phase }, { on := 24, ground := Ground.phase }, { on := 25, ground := Ground.phase }, { on := 26, ground := Ground.phase }, { on := 27, ground := Ground.phase }], guard := none }) (v := ?_) rfl (by kernel_rfl) (by kernel_rfl) (by kernel_rfl) (fun _ _ _ h => h) (Or.inl ⟨by rfl, ?_⟩) (by first | trivial | assumption) ?_
                  rotate_left 1
                  · (intro W hSw; go_simp; (try (with_reducible rfl)))
                  try simp only [Act.put, List.setIfInBounds_toArray, List.set_cons_zero, List.set_cons_succ]
                  refine wpAnyH_done (by kernel_rfl) ?_ _
                  refine NoPanic.normal ?_
                  clear hIsT
                  go_wp2
                  exact ⟨⟨i + 1, by omega, by go_num, lw_stay HS.out HQ6.out.2.2 HQ6.out.1 HI.out HLEN.out HE0.out HQ6.out.2.1 hf7⟩, by simp [intOf]; omega⟩
                · have ej : ((j : Int) == 0) = false := by simpa using e
                  have he0 : er = 0 := her.2 ((hjx e).1)
                  have HE0 : Hid (er = 0) := he0
                  have he1 : (er == 0) = true := by simpa using he0
                  clear he0 her hjx hjn e
                  refine wp_region_noPanic ?_
                  refine wp_region_held_drew (S := fun W : World => w6.grownBy W none) (by kernel_rfl) (gb_drew (gb_refl w6 none)) (fun hgA => ?_)
                  generalize w6.drew = Wd at hgA ⊢
                  refine wpAnyH_take (i := 0) (oi := { dst := some 128, op := Op.move (Operand.tmp 3), type := 23, pos := _, after := #[], guard := none }) (v := ?_) rfl (by kernel_rfl) (by kernel_rfl) (by kernel_rfl) (fun _ _ _ h => h) (Or.inl ⟨by rfl, ?_⟩) (by first | trivial | assumption) ?_
                  rotate_left 1
                  · (intro W hSw; go_simp; (try (with_reducible rfl)))
                  try simp only [Act.put, List.setIfInBounds_toArray, List.set_cons_zero, List.set_cons_succ]
                  refine wpAnyH_take (i := 1) (oi := { dst := some 129, op := Op.nilCheck (Operand.tmp 128), type := 0, pos := _, after := #[{ on := 0, ground := Ground.data }], guard := none }) (v := ?_) rfl (by kernel_rfl) (by kernel_rfl) (by kernel_rfl) (fun _ _ _ h => h) (Or.inl ⟨by rfl, ?_⟩) (by first | trivial | assumption) ?_
                  rotate_left 1
                  · (intro W hSw; go_simp; (try (with_reducible rfl)))
                  try simp only [Act.put, List.setIfInBounds_toArray, List.set_cons_zero, List.set_cons_succ]
                  refine wpAnyH_take (i := 2) (oi := { dst := some 130, op := Op.fieldAddr 47 (Operand.tmp 129) 3, type := 0, pos := _, after := #[{ on := 1, ground := Ground.data }], guard := none }) (v := ?_) rfl (by kernel_rfl) (by kernel_rfl) (by kernel_rfl) (fun _ _ _ h => h) (Or.inl ⟨by rfl, ?_⟩) (by first | trivial | assumption) ?_
                  rotate_left 1
                  · (intro W hSw; go_simp; (try (with_reducible rfl)))
                  try simp only [Act.put, List.setIfInBounds_toArray, List.set_cons_zero, List.set_cons_succ]
                  refine wpAnyH_take (i := 3) (oi := { dst := some 131, op := Op.load 44 (Operand.tmp 130), type := 44, pos := _, after := #[{ on := 2, ground := Ground.data }], guard := none }) (v := ?_) rfl (by kernel_rfl) (by kernel_rfl) (by kernel_rfl) (fun _ _ _ h => h) (Or.inl ⟨by rfl, ?_⟩) (by first | trivial | assumption) ?_
                  rotate_left 1
                  · (intro W hSw; obtain ⟨⟨y0, y1, y2, y3, y4⟩, _⟩ := HLk.out W hSw; go_simp; (try (with_reducible rfl)))
                  try simp only [Act.put, List.setIfInBounds_toArray, List.set_cons_zero, List.set_cons_succ]
                  refine wpAnyH_take (i := 4) (oi := { dst := some 132, op := Op.move (Operand.tmp 3), type := 23, pos := _, after := #[], guard := none }) (v := ?_) rfl (by kernel_rfl) (by kernel_rfl) (by kernel_rfl) (fun _ _ _ h => h) (Or.inl ⟨by rfl, ?_⟩) (by first | trivial | assumption) ?_
                  rotate_left 1
                  · (intro W hSw; go_simp; (try (with_reducible rfl)))
                  try simp only [Act.put, List.setIfInBounds_toArray, List.set_cons_zero, List.set_cons_succ]
                  refine wpAnyH_take (i := 5) (oi := { dst := some 133, op := Op.nilCheck (Operand.tmp 132), type := 0, pos := _, after := #[{ on := 4, ground := Ground.data }], guard := none }) (v := ?_) rfl (by kernel_rfl) (by kernel_rfl) (by kernel_rfl) (fun _ _ _ h => h) (Or.inl ⟨by rfl, ?_⟩) (by first | trivial | assumption) ?_
                  rotate_left 1
                  · (intro W hSw; go_simp; (try (with_reducible rfl)))
                  try simp only [Act.put, List.setIfInBounds_toArray, List.set_cons_zero, List.set_cons_succ]
                  refine wpAnyH_take (i := 6) (oi := { dst := some 134, op := Op.fieldAddr 47 (Operand.tmp 133) 4, type := 0, pos := _, after := #[{ on := 5, ground := Ground.data }], guard := none }) (v := ?_) rfl (by kernel_rfl) (by kernel_rfl) (by kernel_rfl) (fun _ _ _ h => h) (Or.inl ⟨by rfl, ?_⟩) (by first | trivial | assumption) ?_
                  rotate_left 1
                  · (intro W hSw; go_simp; (try (with_reducible rfl)))
                  try simp only [Act.put, List.setIfInBounds_toArray, List.set_cons_zero, List.set_cons_succ]
                  refine wpAnyH_take (i := 7) (oi := { dst := some 135, op := Op.load 45 (Operand.tmp 134), type := 45, pos := _, after := #[{ on := 6, ground := Ground.data }], guard := none }) (v := ?_) rfl (by kernel_rfl) (by kernel_rfl) (by kernel_rfl) (fun _ _ _ h => h) (Or.inl ⟨by rfl, ?_⟩) (by first | trivial | assumption) ?_
                  rotate_left 1
                  · (intro W hSw; obtain ⟨⟨y0, y1, y2, y3, y4⟩, _⟩ := HLk.out W hSw; go_simp; (try (with_reducible rfl)))
                  try simp only [Act.put, List.setIfInBounds_toArray, List.set_cons_zero, List.set_cons_succ]
                  refine wpAnyH_take (i := 8) (oi := { dst := some 136, op := Op.move (Operand.tmp 7), type := 3, pos := _, after := #[], guard := none }) (v := ?_) rfl (by kernel_rfl) (by kernel_rfl) (by kernel_rfl) (fun _ _ _ h => h) (Or.inl ⟨by rfl, ?_⟩) (by first | trivial | assumption) ?_
                  rotate_left 1
                  · (intro W hSw; go_simp; (try (with_reducible rfl)))
                  try simp only [Act.put, List.setIfInBounds_toArray, List.set_cons_zero, List.set_cons_succ]
                  refine wpAnyH_take (i := 9) (oi := { dst := some 137, op := Op.indexAddr 45 (Operand.tmp 135) (Operand.tmp 136), type := 0, pos := _, after := #[{ on := 7, ground := Ground.data }, { on := 8, ground := Ground.data }], guard := none }) (v := ?_) rfl (by kernel_rfl) (by kernel_rfl) (by kernel_rfl) (fun _ _ _ h => h) (Or.inl ⟨by rfl, ?_⟩) (by first | trivial | assumption) ?_
                  rotate_left 1
                  · (intro W hSw; go_simp; (try (with_reducible rfl)))
                  try simp only [Act.put, List.setIfInBounds_toArray, List.set_cons_zero, List.set_cons_succ]
                  refine wpAnyH_take (i := 10) (oi := { dst := some 138, op := Op.load 26 (Operand.tmp 137), type := 26, pos := _, after := #[{ on := 9, ground := Ground.data }], guard := none }) (v := ?_) rfl (by kernel_rfl) (by kernel_rfl) (by kernel_rfl) (fun _ _ _ h => h) (Or.inl ⟨by rfl, ?_⟩) (by first | trivial | assumption) ?_
                  rotate_left 1
                  · (intro W hSw; obtain ⟨⟨y0, y1, y2, y3, y4⟩, _⟩ := HLk.out W hSw; go_simp; (try (with_reducible rfl)))
                  try simp only [Act.put, List.setIfInBounds_toArray, List.set_cons_zero, List.set_cons_succ]
                  refine wpAnyH_ready (rs := [11]) (by kernel_rfl) (by simp) ?_
                  refine (AllReadyH.cons rfl (fun K hK => ?_) AllReadyH.nil)
                  go_simp
                  (with_reducible refine (hIsT Wd hgA).mono ?_)
                  rintro e w7 ⟨rfl, hgn⟩
                  have hf7 := gb_trans hgA hgn
                  clear hgn
                  refine hK.out _ _ hf7 (fun hS => ?_)
                  clear hK K hS
                  try simp only [Act.put, List.setIfInBounds_toArray, List.set_cons_zero, List.set_cons_succ]
                  refine wpAnyH_take (i := 12) (oi := { dst := some 140, op := Op.move (Operand.tmp 139), type := 4, pos := _, after := #[{ on := 11, ground := Ground.data }, { on := 11, ground := Ground.chain }], guard := none }) (v := ?_) rfl (by kernel_rfl) (by kernel_rfl) (by kernel_rfl) (fun _ _ _ h => h) (Or.inl ⟨by rfl, ?_⟩) (by first | trivial | assumption) ?_
                  rotate_left 1
                  · (intro W hSw; go_simp; (try (with_reducible rfl)))
                  try simp only [Act.put, List.setIfInBounds_toArray, List.set_cons_zero, List.set_cons_succ]
                  refine wpAnyH_take (i := 13) (oi := { dst := some 141, op := Op.move (Operand.tmp 4), type := 55, pos := _, after := #[{ on := 12, ground := Ground.guard }], guard := some (12, true) }) (v := ?_) rfl (by kernel_rfl) (by kernel_rfl) (by kernel_rfl) (fun _ _ _ h => h) (Or.inl ⟨by rfl, ?_⟩) (by first | trivial | assumption) ?_
                  rotate_left 1
                  · (intro W hSw; go_simp; (try (with_reducible rfl)))
                  try simp only [Act.put, List.setIfInBounds_toArray, List.set_cons_zero, List.set_cons_succ]
                  refine wpAnyH_take (i := 14) (oi := { dst := some 142, op := Op.move (Operand.tmp 7), type := 3, pos := _, after := #[{ on := 12, ground := Ground.guard }], guard := some (12, true) }) (v := ?_) rfl (by kernel_rfl) (by kernel_rfl) (by kernel_rfl) (fun _ _ _ h => h) (Or.inl ⟨by rfl, ?_⟩) (by first | trivial | assumption) ?_
                  rotate_left 1
                  · (intro W hSw; go_simp; (try (with_reducible rfl)))
                  try simp only [Act.put, List.setIfInBounds_toArray, List.set_cons_zero, List.set_cons_succ]
                  refine wpAnyH_take (i := 15) (oi := { dst := some 143, op := Op.indexAddr 55 (Operand.tmp 141) (Operand.tmp 142), type := 0, pos := _, after := #[{ on := 13, ground := Ground.data }, { on := 14, ground := Ground.data }, { on := 12, ground := Ground.guard }], guard := some (12, true) }) (v := ?_) rfl (by kernel_rfl) (by kernel_rfl) (by kernel_rfl) (fun _ _ _ h => h) (Or.inl ⟨by rfl, ?_⟩) (by first | trivial | assumption) ?_
                  rotate_left 1
                  · (intro W hSw; go_simp; (try (with_reducible rfl)))
                  try simp only [Act.put, List.setIfInBounds_toArray, List.set_cons_zero, List.set_cons_succ]
                  refine wpAnyH_take (i := 16) (oi := { dst := some 144, op := Op.load 3 (Operand.tmp 143), type := 3, pos := _, after := #[{ on := 15, ground := Ground.data }, { on := 12, ground := Ground.guard }], guard := some (12, true) }) (v := ?_) rfl (by kernel_rfl) (by kernel_rfl) (by kernel_rfl) (fun _ _ _ h => h) (Or.inl ⟨by rfl, ?_⟩) (by first | trivial | assumption) ?_
                  rotate_left 1
                  · (intro W hSw; obtain ⟨⟨y0, y1, y2, y3, y4⟩, _⟩ := HLk.out W hSw; go_simp; (try (with_reducible rfl)))
                  try simp only [Act.put, List.setIfInBounds_toArray, List.set_cons_zero, List.set_cons_succ]
                  refine wpAnyH_take (i := 17) (oi := { dst := some 145, op := Op.binOp BinOp.eql 3 (Operand.tmp 144) (Operand.const (Value.int IntKind.i64 0)) 3, type := 4, pos := _, after := #[{ on := 16, ground := Ground.data }, { on := 12, ground := Ground.guard }], guard := some (12, true) }) (v := ?_) rfl (by kernel_rfl) (by kernel_rfl) (by kernel_rfl) (fun _ _ _ h => h) (Or.inl ⟨by rfl, ?_⟩) (by first | trivial | assumption) ?_
                  rotate_left 1
                  · (intro W hSw; go_simp; (try (with_reducible rfl)))
                  try simp only [Act.put, List.setIfInBounds_toArray, List.set_cons_zero, List.set_cons_succ]
                  refine wpAnyH_take (i := 18) (oi := { dst := some 146, op := Op.fieldAddr 28 (Operand.tmp 6) 0, type := 0, pos := _, after := #[{ on := 12, ground := Ground.guard }], guard := some (12, true) }) (v := ?_) rfl (by kernel_rfl) (by kernel_rfl) (by kernel_rfl) (fun _ _ _ h => h) (Or.inl ⟨by rfl, ?_⟩) (by first | trivial | assumption) ?_
                  rotate_left 1
                  · (intro W hSw; go_simp; (try (with_reducible rfl)))
                  try simp only [Act.put, List.setIfInBounds_toArray, List.set_cons_zero, List.set_cons_succ]
                  refine wpAnyH_take (i := 19) (oi := { dst := some 147, op := Op.load 3 (Operand.tmp 146), type := 3, pos := _, after := #[{ on := 18, ground := Ground.data }, { on := 12, ground := Ground.guard }], guard := some (12, true) }) (v := ?_) rfl (by kernel_rfl) (by kernel_rfl) (by kernel_rfl) (fun _ _ _ h => h) (Or.inl ⟨by rfl, ?_⟩) (by first | trivial | assumption) ?_
                  rotate_left 1
                  · (intro W hSw; obtain ⟨⟨y0, y1, y2, y3, y4⟩, _⟩ := HLk.out W hSw; go_simp; (try (with_reducible rfl)))
                  try simp only [Act.put, List.setIfInBounds_toArray, List.set_cons_zero, List.set_cons_succ]
                  refine wpAnyH_take (i := 20) (oi := { dst := some 148, op := Op.binOp BinOp.eql 3 (Operand.tmp 147) (Operand.const (Value.int IntKind.i64 4)) 3, type := 4, pos := _, after := #[{ on := 19, ground := Ground.data }, { on := 12, ground := Ground.guard }], guard := some (12, true) }) (v := ?_) rfl (by kernel_rfl) (by kernel_rfl) (by kernel_rfl) (fun _ _ _ h => h) (Or.inl ⟨by rfl, ?_⟩) (by first | trivial | assumption) ?_
                  rotate_left 1
                  · (intro W hSw; go_simp; (try (with_reducible rfl)))
                  try simp only [Act.put, List.setIfInBounds_toArray, List.set_cons_zero, List.set_cons_succ]
                  refine wpAnyH_take (i := 21) (oi := { dst := some 149, op := Op.move (Operand.tmp 148), type := 4, pos := _, after := #[{ on := 20, ground := Ground.data }, { on := 12, ground := Ground.chain }, { on := 12, ground := Ground.guard }], guard := some (12, true) }) (v := ?_) rfl (by kernel_rfl) (by kernel_rfl) (by kernel_rfl) (fun _ _ _ h => h) (Or.inl ⟨by rfl, ?_⟩) (by first | trivial | assumption) ?_
                  rotate_left 1
                  · (intro W hSw; go_simp; (try (with_reducible rfl)))
                  try simp only [Act.put, List.setIfInBounds_toArray, List.set_cons_zero, List.set_cons_succ]
                  refine wpAnyH_take (i := 22) (oi := { dst := some 150, op := Op.fieldAddr 28 (Operand.tmp 6) 0, type := 0, pos := _, after := #[{ on := 21, ground := Ground.guard }], guard := some (21, false) }) (v := ?_) rfl (by kernel_rfl) (by kernel_rfl) (by kernel_rfl) (fun _ _ _ h => h) (Or.inl ⟨by rfl, ?_⟩) (by first | trivial | assumption) ?_
                  rotate_left 1
                  · (intro W hSw; go_simp; (try (with_reducible rfl)))
                  try simp only [Act.put, List.setIfInBounds_toArray, List.set_cons_zero, List.set_cons_succ]
                  refine wpAnyH_take (i := 23) (oi := { dst := some 151, op := Op.load 3 (Operand.tmp 150), type := 3, pos := _, after := #[{ on := 22, ground := Ground.data }, { on := 21, ground := Ground.guard }], guard := some (21, false) }) (v := ?_) rfl (by kernel_rfl) (by kernel_rfl) (by kernel_rfl) (fun _ _ _ h => h) (Or.inl ⟨by rfl, ?_⟩) (by first | trivial | assumption) ?_
                  rotate_left 1
                  · (intro W hSw; obtain ⟨⟨y0, y1, y2, y3, y4⟩, _⟩ := HLk.out W hSw; go_simp; (try (with_reducible rfl)))
                  try simp only [Act.put, List.setIfInBounds_toArray, List.set_cons_zero, List.set_cons_succ]
                  refine wpAnyH_take (i := 24) (oi := { dst := some 152, op := Op.binOp BinOp.eql 3 (Operand.tmp 151) (Operand.const (Value.int IntKind.i64 5)) 3, type := 4, pos := _, after := #[{ on := 23, ground := Ground.data }, { on := 21, ground := Ground.guard }], guard := some (21, false) }) (v := ?_) rfl (by kernel_rfl) (by kernel_rfl) (by kernel_rfl) (fun _ _ _ h => h) (Or.inl ⟨by rfl, ?_⟩) (by first | trivial | assumption) ?_
                  rotate_left 1
                  · (intro W hSw; go_simp; (try (with_reducible rfl)))
                  try simp only [Act.put, List.setIfInBounds_toArray, List.set_cons_zero, List.set_cons_succ]
                  refine wpAnyH_take (i := 25) (oi := { dst := some 153, op := Op.pick (Operand.tmp 149) (Operand.const (Value.bool true)) (Operand.tmp 152), type := 4, pos := _, after := #[{ on := 21, ground := Ground.data }, { on := 24, ground := Ground.data }, { on := 12, ground := Ground.guard }], guard := some (12, true) }) (v := ?_) rfl (by kernel_rfl) (by kernel_rfl) (by kernel_rfl) (fun _ _ _ h => h) (Or.inl ⟨by rfl, ?_⟩) (by first | trivial | assumption) ?_
                  rotate_left 1
                  · (intro W hSw; go_simp; (try (with_reducible rfl)))
                  try simp only [Act.put, List.setIfInBounds_toArray, List.set_cons_zero, List.set_cons_succ]
                  refine wpAnyH_take (i := 26) (oi := { dst := some 154, op := Op.binOp BinOp.eql 4 (Operand.tmp 145) (Operand.tmp 153) 4, type := 4, pos := _, after := #[{ on := 17, ground := Ground.data }, { on := 25, ground := Ground.data }, { on := 12, ground := Ground.guard }], guard := some (12, true) }) (v := ?_) rfl (by kernel_rfl) (by kernel_rfl) (by kernel_rfl) (fun _ _ _ h => h) (Or.inl ⟨by rfl, ?_⟩) (by first | trivial | assumption) ?_
                  rotate_left 1
                  · (intro W hSw; go_simp; (try (with_reducible rfl)))
                  try simp only [Act.put, List.setIfInBounds_toArray, List.set_cons_zero, List.set_cons_succ]
                  refine wpAnyH_take (i := 27) (oi := { dst := some 155, op := Op.pick (Operand.tmp 140) (Operand.tmp 154) (Operand.const (Value.bool false)), type := 4, pos := _, after := #[{ on := 12, ground := Ground.data }, { on := 26, ground := Ground.data }], guard := none }) (v := ?_) rfl (by kernel_rfl) (by kernel_rfl) (by kernel_rfl) (fun _ _ _ h => h) (Or.inl ⟨by rfl, ?_⟩) (by first | trivial | assumption) ?_
                  rotate_left 1
                  · (intro W hSw; go_simp; (try (with_reducible rfl)))
                  try simp only [Act.put, List.setIfInBounds_toArray, List.set_cons_zero, List.set_cons_succ]
                  refine wpAnyH_take (i := 28) (oi := { dst := some 11, op := Op.assign (Operand.tmp 155), type := 4, pos := _, after := #[{ on := 27, ground := Ground.data }, { on := 21, ground := Ground.chain }, { on := 0, ground := Ground.phase }, { on := 1, ground := Ground.phase }, { on := 2, ground := Ground.phase }, { on := 3, ground := Ground.phase }, { on := 4, ground := Ground.phase }, { on := 5, ground := Ground.phase }, { on := 6, ground := Ground.phase }, { on := 7, ground := Ground.phase }, { on := 8, ground := Ground.phase }, { on := 9, ground := Ground.phase }, { on := 10, ground := Ground.phase }, { on := 11, ground := Ground.phase }, { on := 12, ground := Ground.phase }, { on := 13, ground := Ground.phase }, { on := 14, ground := Ground.phase }, { on := 15, ground := Ground.phase }, { on := 16, ground := Ground.phase }, { on := 17, ground := Ground.phase }, { on := 18, ground := Ground.phase }, { on := 19, ground := Ground.phase }, { on := 20, ground := Ground.phase }, { on := 21, ground := Ground.phase }, { on := 22, ground := Ground.phase }, { on := 23, ground := Ground.phase }, { on := 24, ground := Ground.phase }, { on := 25, ground := Ground.phase }, { on := 26, ground := Ground.phase }, { on := 27, ground := Ground.phase }], guard := none }) (v := ?_) rfl (by kernel_rfl) (by kernel_rfl) (by kernel_rfl) (fun _ _ _ h => h) (Or.inl ⟨by rfl, ?_⟩) (by first | trivial | assumption) ?_
                  rotate_left 1
                  · (intro W hSw; go_simp; (try (with_reducible rfl)))
                  try simp only [Act.put, List.setIfInBounds_toArray, List.set_cons_zero, List.set_cons_succ]
                  refine wpAnyH_done (by kernel_rfl) ?_ _
                  refine NoPanic.normal ?_
                  clear hIsT
                  have hk9 := HLk.out w7 hf7
                  obtain ⟨⟨_, _, _, x1, _⟩, x2⟩ := hk9
                  go_wp2
                  have hme := HQ6.out.2.1
                  rw [HE0.out] at hme
                  exact ⟨⟨i + 1, by omega, by go_num, lw_goes HS.out HQ6.out.2.2 HQ6.out.1 HI.out HLEN.out hme HH.out (fun c i h => by simp at h) rfl hf7⟩, by simp [intOf]; omega⟩
              · have hIsT := fun W hW => by have := HIs.out W hW; rw [decide_eq_false hm] at this; exact this
                have he0 : er ≠ 0 := fun e2 => (by obtain ⟨c, k, hck⟩ := her.1 e2; rcases Nat.eq_zero_or_pos j with e | e; exact hjn e c k hck; exact hm (hjx (by omega)).2)
                have he1 : (er == 0) = false := by simpa using he0
                have HE0 : Hid (er ≠ 0) := he0
                clear he0 her hjx hjn
                try clear e
                refine wp_region_noPanic ?_
                refine wp_region_held_drew (S := fun W : World => w6.grownBy W none) (by kernel_rfl) (gb_drew (gb_refl w6 none)) (fun hgA => ?_)
                generalize w6.drew = Wd at hgA ⊢
                refine wpAnyH_take (i := 0) (oi := { dst := some 128, op := Op.move (Operand.tmp 3), type := 23, pos := _, after := #[], guard := none }) (v := ?_) rfl (by kernel_rfl) (by kernel_rfl) (by kernel_rfl) (fun _ _ _ h => h) (Or.inl ⟨by rfl, ?_⟩) (by first | trivial | assumption) ?_
                rotate_left 1
                · (intro W hSw; go_simp; (try (with_reducible rfl)))
                try simp only [Act.put, List.setIfInBounds_toArray, List.set_cons_zero, List.set_cons_succ]
                refine wpAnyH_take (i := 1) (oi := { dst := some 129, op := Op.nilCheck (Operand.tmp 128), type := 0, pos := _, after := #[{ on := 0, ground := Ground.data }], guard := none }) (v := ?_) rfl (by kernel_rfl) (by kernel_rfl) (by kernel_rfl) (fun _ _ _ h => h) (Or.inl ⟨by rfl, ?_⟩) (by first | trivial | assumption) ?_
                rotate_left 1
                · (intro W hSw; go_simp; (try (with_reducible rfl)))
                try simp only [Act.put, List.setIfInBounds_toArray, List.set_cons_zero, List.set_cons_succ]
                refine wpAnyH_take (i := 2) (oi := { dst := some 130, op := Op.fieldAddr 47 (Operand.tmp 129) 3, type := 0, pos := _, after := #[{ on := 1, ground := Ground.data }], guard := none }) (v := ?_) rfl (by kernel_rfl) (by kernel_rfl) (by kernel_rfl) (fun _ _ _ h => h) (Or.inl ⟨by rfl, ?_⟩) (by first | trivial | assumption) ?_
                rotate_left 1
                · (intro W hSw; go_simp; (try (with_reducible rfl)))
                try simp only [Act.put, List.setIfInBounds_toArray, List.set_cons_zero, List.set_cons_succ]
                refine wpAnyH_take (i := 3) (oi := { dst := some 131, op := Op.load 44 (Operand.tmp 130), type := 44, pos := _, after := #[{ on := 2, ground := Ground.data }], guard := none }) (v := ?_) rfl (by kernel_rfl) (by kernel_rfl) (by kernel_rfl) (fun _ _ _ h => h) (Or.inl ⟨by rfl, ?_⟩) (by first | trivial | assumption) ?_
                rotate_left 1
                · (intro W hSw; obtain ⟨⟨y0, y1, y2, y3, y4⟩, _⟩ := HLk.out W hSw; go_simp; (try (with_reducible rfl)))
                try simp only [Act.put, List.setIfInBounds_toArray, List.set_cons_zero, List.set_cons_succ]
                refine wpAnyH_take (i := 4) (oi := { dst := some 132, op := Op.move (Operand.tmp 3), type := 23, pos := _, after := #[], guard := none }) (v := ?_) rfl (by kernel_rfl) (by kernel_rfl) (by kernel_rfl) (fun _ _ _ h => h) (Or.inl ⟨by rfl, ?_⟩) (by first | trivial | assumption) ?_
                rotate_left 1
                · (intro W hSw; go_simp; (try (with_reducible rfl)))
                try simp only [Act.put, List.setIfInBounds_toArray, List.set_cons_zero, List.set_cons_succ]
                refine wpAnyH_take (i := 5) (oi := { dst := some 133, op := Op.nilCheck (Operand.tmp 132), type := 0, pos := _, after := #[{ on := 4, ground := Ground.data }], guard := none }) (v := ?_) rfl (by kernel_rfl) (by kernel_rfl) (by kernel_rfl) (fun _ _ _ h => h) (Or.inl ⟨by rfl, ?_⟩) (by first | trivial | assumption) ?_
                rotate_left 1
                · (intro W hSw; go_simp; (try (with_reducible rfl)))
                try simp only [Act.put, List.setIfInBounds_toArray, List.set_cons_zero, List.set_cons_succ]
                refine wpAnyH_take (i := 6) (oi := { dst := some 134, op := Op.fieldAddr 47 (Operand.tmp 133) 4, type := 0, pos := _, after := #[{ on := 5, ground := Ground.data }], guard := none }) (v := ?_) rfl (by kernel_rfl) (by kernel_rfl) (by kernel_rfl) (fun _ _ _ h => h) (Or.inl ⟨by rfl, ?_⟩) (by first | trivial | assumption) ?_
                rotate_left 1
                · (intro W hSw; go_simp; (try (with_reducible rfl)))
                try simp only [Act.put, List.setIfInBounds_toArray, List.set_cons_zero, List.set_cons_succ]
                refine wpAnyH_take (i := 7) (oi := { dst := some 135, op := Op.load 45 (Operand.tmp 134), type := 45, pos := _, after := #[{ on := 6, ground := Ground.data }], guard := none }) (v := ?_) rfl (by kernel_rfl) (by kernel_rfl) (by kernel_rfl) (fun _ _ _ h => h) (Or.inl ⟨by rfl, ?_⟩) (by first | trivial | assumption) ?_
                rotate_left 1
                · (intro W hSw; obtain ⟨⟨y0, y1, y2, y3, y4⟩, _⟩ := HLk.out W hSw; go_simp; (try (with_reducible rfl)))
                try simp only [Act.put, List.setIfInBounds_toArray, List.set_cons_zero, List.set_cons_succ]
                refine wpAnyH_take (i := 8) (oi := { dst := some 136, op := Op.move (Operand.tmp 7), type := 3, pos := _, after := #[], guard := none }) (v := ?_) rfl (by kernel_rfl) (by kernel_rfl) (by kernel_rfl) (fun _ _ _ h => h) (Or.inl ⟨by rfl, ?_⟩) (by first | trivial | assumption) ?_
                rotate_left 1
                · (intro W hSw; go_simp; (try (with_reducible rfl)))
                try simp only [Act.put, List.setIfInBounds_toArray, List.set_cons_zero, List.set_cons_succ]
                refine wpAnyH_take (i := 9) (oi := { dst := some 137, op := Op.indexAddr 45 (Operand.tmp 135) (Operand.tmp 136), type := 0, pos := _, after := #[{ on := 7, ground := Ground.data }, { on := 8, ground := Ground.data }], guard := none }) (v := ?_) rfl (by kernel_rfl) (by kernel_rfl) (by kernel_rfl) (fun _ _ _ h => h) (Or.inl ⟨by rfl, ?_⟩) (by first | trivial | assumption) ?_
                rotate_left 1
                · (intro W hSw; go_simp; (try (with_reducible rfl)))
                try simp only [Act.put, List.setIfInBounds_toArray, List.set_cons_zero, List.set_cons_succ]
                refine wpAnyH_take (i := 10) (oi := { dst := some 138, op := Op.load 26 (Operand.tmp 137), type := 26, pos := _, after := #[{ on := 9, ground := Ground.data }], guard := none }) (v := ?_) rfl (by kernel_rfl) (by kernel_rfl) (by kernel_rfl) (fun _ _ _ h => h) (Or.inl ⟨by rfl, ?_⟩) (by first | trivial | assumption) ?_
                rotate_left 1
                · (intro W hSw; obtain ⟨⟨y0, y1, y2, y3, y4⟩, _⟩ := HLk.out W hSw; go_simp; (try (with_reducible rfl)))
                try simp only [Act.put, List.setIfInBounds_toArray, List.set_cons_zero, List.set_cons_succ]
                refine wpAnyH_ready (rs := [11]) (by kernel_rfl) (by simp) ?_
                refine (AllReadyH.cons rfl (fun K hK => ?_) AllReadyH.nil)
                go_simp
                (with_reducible refine (hIsT Wd hgA).mono ?_)
                rintro e w7 ⟨rfl, hgn⟩
                have hf7 := gb_trans hgA hgn
                clear hgn
                refine hK.out _ _ hf7 (fun hS => ?_)
                clear hK K hS
                try simp only [Act.put, List.setIfInBounds_toArray, List.set_cons_zero, List.set_cons_succ]
                refine wpAnyH_take (i := 12) (oi := { dst := some 140, op := Op.move (Operand.tmp 139), type := 4, pos := _, after := #[{ on := 11, ground := Ground.data }, { on := 11, ground := Ground.chain }], guard := none }) (v := ?_) rfl (by kernel_rfl) (by kernel_rfl) (by kernel_rfl) (fun _ _ _ h => h) (Or.inl ⟨by rfl, ?_⟩) (by first | trivial | assumption) ?_
                rotate_left 1
                · (intro W hSw; go_simp; (try (with_reducible rfl)))
                try simp only [Act.put, List.setIfInBounds_toArray, List.set_cons_zero, List.set_cons_succ]
                refine wpAnyH_take (i := 13) (oi := { dst := some 141, op := Op.move (Operand.tmp 4), type := 55, pos := _, after := #[{ on := 12, ground := Ground.guard }], guard := some (12, true) }) (v := undef) rfl (by kernel_rfl) (by kernel_rfl) (by kernel_rfl) (fun _ _ _ h => h) (Or.inr ⟨by rfl, rfl⟩) (by first | trivial | assumption) ?_
                try simp only [Act.put, List.setIfInBounds_toArray, List.set_cons_zero, List.set_cons_succ]
                refine wpAnyH_take (i := 14) (oi := { dst := some 142, op := Op.move (Operand.tmp 7), type := 3, pos := _, after := #[{ on := 12, ground := Ground.guard }], guard := some (12, true) }) (v := undef) rfl (by kernel_rfl) (by kernel_rfl) (by kernel_rfl) (fun _ _ _ h => h) (Or.inr ⟨by rfl, rfl⟩) (by first | trivial | assumption) ?_
                try simp only [Act.put, List.setIfInBounds_toArray, List.set_cons_zero, List.set_cons_succ]
                refine wpAnyH_take (i := 15) (oi := { dst := some 143, op := Op.indexAddr 55 (Operand.tmp 141) (Operand.tmp 142), type := 0, pos := _, after := #[{ on := 13, ground := Ground.data }, { on := 14, ground := Ground.data }, { on := 12, ground := Ground.guard }], guard := some (12, true) }) (v := undef) rfl (by kernel_rfl) (by kernel_rfl) (by kernel_rfl) (fun _ _ _ h => h) (Or.inr ⟨by rfl, rfl⟩) (by first | trivial | assumption) ?_
                try simp only [Act.put, List.setIfInBounds_toArray, List.set_cons_zero, List.set_cons_succ]
                refine wpAnyH_take (i := 16) (oi := { dst := some 144, op := Op.load 3 (Operand.tmp 143), type := 3, pos := _, after := #[{ on := 15, ground := Ground.data }, { on := 12, ground := Ground.guard }], guard := some (12, true) }) (v := undef) rfl (by kernel_rfl) (by kernel_rfl) (by kernel_rfl) (fun _ _ _ h => h) (Or.inr ⟨by rfl, rfl⟩) (by first | trivial | assumption) ?_
                try simp only [Act.put, List.setIfInBounds_toArray, List.set_cons_zero, List.set_cons_succ]
                refine wpAnyH_take (i := 17) (oi := { dst := some 145, op := Op.binOp BinOp.eql 3 (Operand.tmp 144) (Operand.const (Value.int IntKind.i64 0)) 3, type := 4, pos := _, after := #[{ on := 16, ground := Ground.data }, { on := 12, ground := Ground.guard }], guard := some (12, true) }) (v := undef) rfl (by kernel_rfl) (by kernel_rfl) (by kernel_rfl) (fun _ _ _ h => h) (Or.inr ⟨by rfl, rfl⟩) (by first | trivial | assumption) ?_
                try simp only [Act.put, List.setIfInBounds_toArray, List.set_cons_zero, List.set_cons_succ]
                refine wpAnyH_take (i := 18) (oi := { dst := some 146, op := Op.fieldAddr 28 (Operand.tmp 6) 0, type := 0, pos := _, after := #[{ on := 12, ground := Ground.guard }], guard := some (12, true) }) (v := undef) rfl (by kernel_rfl) (by kernel_rfl) (by kernel_rfl) (fun _ _ _ h => h) (Or.inr ⟨by rfl, rfl⟩) (by first | trivial | assumption) ?_
                try simp only [Act.put, List.setIfInBounds_toArray, List.set_cons_zero, List.set_cons_succ]
                refine wpAnyH_take (i := 19) (oi := { dst := some 147, op := Op.load 3 (Operand.tmp 146), type := 3, pos := _, after := #[{ on := 18, ground := Ground.data }, { on := 12, ground := Ground.guard }], guard := some (12, true) }) (v := undef) rfl (by kernel_rfl) (by kernel_rfl) (by kernel_rfl) (fun _ _ _ h => h) (Or.inr ⟨by rfl, rfl⟩) (by first | trivial | assumption) ?_
                try simp only [Act.put, List.setIfInBounds_toArray, List.set_cons_zero, List.set_cons_succ]
                refine wpAnyH_take (i := 20) (oi := { dst := some 148, op := Op.binOp BinOp.eql 3 (Operand.tmp 147) (Operand.const (Value.int IntKind.i64 4)) 3, type := 4, pos := _, after := #[{ on := 19, ground := Ground.data }, { on := 12, ground := Ground.guard }], guard := some (12, true) }) (v := undef) rfl (by kernel_rfl) (by kernel_rfl) (by kernel_rfl) (fun _ _ _ h => h) (Or.inr ⟨by rfl, rfl⟩) (by first | trivial | assumption) ?_
                try simp only [Act.put, List.setIfInBounds_toArray, List.set_cons_zero, List.set_cons_succ]
                refine wpAnyH_take (i := 21) (oi := { dst := some 149, op := Op.move (Operand.tmp 148), type := 4, pos := _, after := #[{ on := 20, ground := Ground.data }, { on := 12, ground := Ground.chain }, { on := 12, ground := Ground.guard }], guard := some (12, true) }) (v := undef) rfl (by kernel_rfl) (by kernel_rfl) (by kernel_rfl) (fun _ _ _ h => h) (Or.inr ⟨by rfl, rfl⟩) (by first | trivial | assumption) ?_
                try simp only [Act.put, List.setIfInBounds_toArray, List.set_cons_zero, List.set_cons_succ]
                refine wpAnyH_take (i := 22) (oi := { dst := some 150, op := Op.fieldAddr 28 (Operand.tmp 6) 0, type := 0, pos := _, after := #[{ on := 21, ground := Ground.guard }], guard := some (21, false) }) (v := undef) rfl (by kernel_rfl) (by kernel_rfl) (by kernel_rfl) (fun _ _ _ h => h) (Or.inr ⟨by rfl, rfl⟩) (by first | trivial | assumption) ?_
                try simp only [Act.put, List.setIfInBounds_toArray, List.set_cons_zero, List.set_cons_succ]
                refine wpAnyH_take (i := 23) (oi := { dst := some 151, op := Op.load 3 (Operand.tmp 150), type := 3, pos := _, after := #[{ on := 22, ground := Ground.data }, { on := 21, ground := Ground.guard }], guard := some (21, false) }) (v := undef) rfl (by kernel_rfl) (by kernel_rfl) (by kernel_rfl) (fun _ _ _ h => h) (Or.inr ⟨by rfl, rfl⟩) (by first | trivial | assumption) ?_
                try simp only [Act.put, List.setIfInBounds_toArray, List.set_cons_zero, List.set_cons_succ]
                refine wpAnyH_take (i := 24) (oi := { dst := some 152, op := Op.binOp BinOp.eql 3 (Operand.tmp 151) (Operand.const (Value.int IntKind.i64 5)) 3, type := 4, pos := _, after := #[{ on := 23, ground := Ground.data }, { on := 21, ground := Ground.guard }], guard := some (21, false) }) (v := undef) rfl (by kernel_rfl) (by kernel_rfl) (by kernel_rfl) (fun _ _ _ h => h) (Or.inr ⟨by rfl, rfl⟩) (by first | trivial | assumption) ?_
                try simp only [Act.put, List.setIfInBounds_toArray, List.set_cons_zero, List.set_cons_succ]
                refine wpAnyH_take (i := 25) (oi := { dst := some 153, op := Op.pick (Operand.tmp 149) (Operand.const (Value.bool true)) (Operand.tmp 152), type := 4, pos := _, after := #[{ on := 21, ground := Ground.data }, { on := 24, ground := Ground.data }, { on := 12, ground := Ground.guard }], guard := some (12, true) }) (v := undef) rfl (by kernel_rfl) (by kernel_rfl) (by kernel_rfl) (fun _ _ _ h => h) (Or.inr ⟨by rfl, rfl⟩) (by first | trivial | assumption) ?_
                try simp only [Act.put, List.setIfInBounds_toArray, List.set_cons_zero, List.set_cons_succ]
                refine wpAnyH_take (i := 26) (oi := { dst := some 154, op := Op.binOp BinOp.eql 4 (Operand.tmp 145) (Operand.tmp 153) 4, type := 4, pos := _, after := #[{ on := 17, ground := Ground.data }, { on := 25, ground := Ground.data }, { on := 12, ground := Ground.guard }], guard := some (12, true) }) (v := undef) rfl (by kernel_rfl) (by kernel_rfl) (by kernel_rfl) (fun _ _ _ h => h) (Or.inr ⟨by rfl, rfl⟩) (by first | trivial | assumption) ?_
                try simp only [Act.put, List.setIfInBounds_toArray, List.set_cons_zero, List.set_cons_succ]
                refine wpAnyH_take (i := 27) (oi := { dst := some 155, op := Op.pick (Operand.tmp 140) (Operand.tmp 154) (Operand.const (Value.bool false)), type := 4, pos := _, after := #[{ on := 12, ground := Ground.data }, { on := 26, ground := Ground.data }], guard := none }) (v := ?_) rfl (by kernel_rfl) (by kernel_rfl) (by kernel_rfl) (fun _ _ _ h => h) (Or.inl ⟨by rfl, ?_⟩) (by first | trivial | assumption) ?_
                rotate_left 1
                · (intro W hSw; go_simp; (try (with_reducible rfl)))
                try simp only [Act.put, List.setIfInBounds_toArray, List.set_cons_zero, List.set_cons_succ]
                refine wpAnyH_take (i := 28) (oi := { dst := some 11, op := Op.assign (Operand.tmp 155), type := 4, pos := _, after := #[{ on := 27, ground := Ground.data }, { on := 21, ground := Ground.chain }, { on := 0, ground := Ground.phase }, { on := 1, ground := Ground.phase }, { on := 2, ground := Ground.phase }, { on := 3, ground := Ground.phase }, { on := 4, ground := Ground.phase }, { on := 5, ground := Ground.phase }, { on := 6, ground := Ground.phase }, { on := 7, ground := Ground.phase }, { on := 8, ground := Ground.phase }, { on := 9, ground := Ground.phase }, { on := 10, ground := Ground.phase }, { on := 11, ground := Ground.phase }, { on := 12, ground := Ground.phase }, { on := 13, ground := Ground.phase }, { on := 14, ground := Ground.phase }, { on := 15, ground := Ground.phase }, { on := 16, ground := Ground.phase }, { on := 17, ground := Ground.phase }, { on := 18, ground := Ground.phase }, { on := 19, ground := Ground.phase }, { on := 20, ground := Ground.phase }, { on := 21, ground := Ground.phase }, { on := 22, ground := Ground.phase }, { on := 23, ground := Ground.phase }, { on := 24, ground := Ground.phase }, { on := 25, ground := Ground.phase }, { on := 26, ground := Ground.phase }, { on := 27, ground := Ground.phase }], guard := none }) (v := ?_) rfl (by kernel_rfl) (by kernel_rfl) (by kernel_rfl) (fun _ _ _ h => h) (Or.inl ⟨by rfl, ?_⟩) (by first | trivial | assumption) ?_
                rotate_left 1
                · (intro W hSw; go_simp; (try (with_reducible rfl)))
                try simp only [Act.put, List.setIfInBounds_toArray, List.set_cons_zero, List.set_cons_succ]
                refine wpAnyH_done (by kernel_rfl) ?_ _
                refine NoPanic.normal ?_
                clear hIsT
                go_wp2
                exact ⟨⟨i + 1, by omega, by go_num, lw_stay HS.out HQ6.out.2.2 HQ6.out.1 HI.out HLEN.out HE0.out HQ6.out.2.1 hf7⟩, by simp [intOf]; omega⟩
            · as_aux_lemma =>
              skip
              have d4 : (d0 == 4) = false := by simpa using c4
              have d5 : (d0 == 5) = false := by simpa using c5
              have d6 : (d0 == 6) = false := by simpa using c6
              obtain ⟨er, her, hcall⟩ := HQ5.out.pc (HQ5.out.gw.cshift (by omega) h64 hk23)
              have hcl := hcall.mono (R' := fun y w6 => y = .returned (.int .i64 er) ∧ ∃ D' S' tg6 tc6, Hid (Mv D D' 0 ∧ Mem S S' er H (some (cl H, k2)) ∧ Qa w w6 P1 wb (i + 1) D' lsb vs Y S' cl ins (.slice (some ⟨ig, 0, none⟩) ins.length ic)) ∧ Hid (∀ W, w6.grownBy W none → Calls Tryz.prog 27 #[.pointer (some ⟨D.lb, 0, none⟩), .int .u64 H] W fun y w' => y = .returned (.bool (decide (H ∈ D.xl))) ∧ W.grownBy w' none) ∧ Hid (∀ W, w6.grownBy W none → (W.cell? ⟨wb, 3, none⟩ = some (.pointer (some ⟨D.lb, 0, none⟩)) ∧ W.cell? ⟨wb, 4, none⟩ = some (.slice (some ⟨tg6, 0, none⟩) D.xt.length tc6) ∧ W.cell? ⟨tg6, ki, none⟩ = some (.int .u64 (H : Nat)) ∧ W.cell? ⟨ig, ki, none⟩ = some (.int .i64 (j : Nat)) ∧ W.cell? ⟨wr.heap.size, 0, none⟩ = some (.int .i64 d0)) ∧ W.frozen? ⟨ig, ki, none⟩ = false)) (by
                rintro y w6 ⟨rfl, hK6, D', S', hmv, hme, hQ6⟩
                obtain ⟨tg6, tc6, hl⟩ := hQ6.look hmv HH.out HJ.out (hK6.box HB5.out hbo.out) rfl
                exact ⟨rfl, D', S', tg6, tc6, ⟨hmv, hme, hQ6⟩, hQ6.isL hmv H, hl⟩)
              clear hcall
              go_wp2_with (first | (go_at_call 18; go_must (refine (hwb _).mono ?_); rintro y w' ⟨rfl, rfl⟩) | (go_at_call 26; go_must (with_reducible refine hcl.mono ?_); rintro y w6 ⟨rfl, D', S', tg6, tc6, HQ6, HIs, HLk⟩) | (go_at_call 16; go_must (refine (num_any _ _).mono ?_); rintro y w' ⟨rfl, rfl⟩) | fail)
              clear hcl u0 u2 p0 p1 p2 p3 q1 q4 hk2 hwb
              by_cases hm : H ∈ D.xl
              · have hIsT := fun W hW => by have := HIs.out W hW; rw [decide_eq_true hm] at this; exact this
                by_cases e : j = 0
                · have ej : ((j : Int) == 0) = true := by simp [e]
                  have he0 : er ≠ 0 := fun e2 => (hjn e _ _ (her.1 e2).choose_spec.choose_spec)
                  have he1 : (er == 0) = false := by simpa using he0
                  have HE0 : Hid (er ≠ 0) := he0
                  clear he0 her hjx hjn
                  try clear e
                  refine wp_region_noPanic ?_
                  refine wp_region_held_drew (S := fun W : World => w6.grownBy W none) (by kernel_rfl) (gb_drew (gb_refl w6 none)) (fun hgA => ?_)
                  generalize w6.drew = Wd at hgA ⊢
                  refine wpAnyH_take (i := 0) (oi := { dst := some 128, op := Op.move (Operand.tmp 3), type := 23, pos := _, after := #[], guard := none }) (v := ?_) rfl (by kernel_rfl) (by kernel_rfl) (by kernel_rfl) (fun _ _ _ h => h) (Or.inl ⟨by rfl, ?_⟩) (by first | trivial | assumption) ?_
                  rotate_left 1
                  · (intro W hSw; go_simp; (try (with_reducible rfl)))
                  try simp only [Act.put, List.setIfInBounds_toArray, List.set_cons_zero, List.set_cons_succ]
                  refine wpAnyH_take (i := 1) (oi := { dst := some 129, op := Op.nilCheck (Operand.tmp 128), type := 0, pos := _, after := #[{ on := 0, ground := Ground.data }], guard := none }) (v := ?_) rfl (by kernel_rfl) (by kernel_rfl) (by kernel_rfl) (fun _ _ _ h => h) (Or.inl ⟨by rfl, ?_⟩) (by first | trivial | assumption) ?_
                  rotate_left 1
                  · (intro W hSw; go_simp; (try (with_reducible rfl)))
                  try simp only [Act.put, List.setIfInBounds_toArray, List.set_cons_zero, List.set_cons_succ]
                  refine wpAnyH_take (i := 2) (oi := { dst := some 130, op := Op.fieldAddr 47 (Operand.tmp 129) 3, type := 0, pos := _, after := #[{ on := 1, ground := Ground.data }], guard := none }) (v := ?_) rfl (by kernel_rfl) (by kernel_rfl) (by kernel_rfl) (fun _ _ _ h => h) (Or.inl ⟨by rfl, ?_⟩) (by first | trivial | assumption) ?_
                  rotate_left 1
                  · (intro W hSw; go_simp; (try (with_reducible rfl)))
                  try simp only [Act.put, List.setIfInBounds_toArray, List.set_cons_zero, List.set_cons_succ]
                  refine wpAnyH_take (i := 3) (oi := { dst := some 131, op := Op.load 44 (Operand.tmp 130), type := 44, pos := _, after := #[{ on := 2, ground := Ground.data }], guard := none }) (v := ?_) rfl (by kernel_rfl) (by kernel_rfl) (by kernel_rfl) (fun _ _ _ h => h) (Or.inl ⟨by rfl, ?_⟩) (by first | trivial | assumption) ?_
                  rotate_left 1
                  · (intro W hSw; obtain ⟨⟨y0, y1, y2, y3, y4⟩, _⟩ := HLk.out W hSw; go_simp; (try (with_reducible rfl)))
                  try simp only [Act.put, List.setIfInBounds_toArray, List.set_cons_zero, List.set_cons_succ]
                  refine wpAnyH_take (i := 4) (oi := { dst := some 132, op := Op.move (Operand.tmp 3), type := 23, pos := _, after := #[], guard := none }) (v := ?_) rfl (by kernel_rfl) (by kernel_rfl) (by kernel_rfl) (fun _ _ _ h => h) (Or.inl ⟨by rfl, ?_⟩) (by first | trivial | assumption) ?_
                  rotate_left 1
                  · (intro W hSw; go_simp; (try (with_reducible rfl)))
                  try simp only [Act.put, List.setIfInBounds_toArray, List.set_cons_zero, List.set_cons_succ]
                  refine wpAnyH_take (i := 5) (oi := { dst := some 133, op := Op.nilCheck (Operand.tmp 132), type := 0, pos := _, after := #[{ on := 4, ground := Ground.data }], guard := none }) (v := ?_) rfl (by kernel_rfl) (by kernel_rfl) (by kernel_rfl) (fun _ _ _ h => h) (Or.inl ⟨by rfl, ?_⟩) (by first | trivial | assumption) ?_
                  rotate_left 1
                  · (intro W hSw; go_simp; (try (with_reducible rfl)))
                  try simp only [Act.put, List.setIfInBounds_toArray, List.set_cons_zero, List.set_cons_succ]
                  refine wpAnyH_take (i := 6) (oi := { dst := some 134, op := Op.fieldAddr 47 (Operand.tmp 133) 4, type := 0, pos := _, after := #[{ on := 5, ground := Ground.data }], guard := none }) (v := ?_) rfl (by kernel_rfl) (by kernel_rfl) (by kernel_rfl) (fun _ _ _ h => h) (Or.inl ⟨by rfl, ?_⟩) (by first | trivial | assumption) ?_
                  rotate_left 1
                  · (intro W hSw; go_simp; (try (with_reducible rfl)))
                  try simp only [Act.put, List.setIfInBounds_toArray, List.set_cons_zero, List.set_cons_succ]
                  refine wpAnyH_take (i := 7) (oi := { dst := some 135, op := Op.load 45 (Operand.tmp 134), type := 45, pos := _, after := #[{ on := 6, ground := Ground.data }], guard := none }) (v := ?_) rfl (by kernel_rfl) (by kernel_rfl) (by kernel_rfl) (fun _ _ _ h => h) (Or.inl ⟨by rfl, ?_⟩) (by first | trivial | assumption) ?_
                  rotate_left 1
                  · (intro W hSw; obtain ⟨⟨y0, y1, y2, y3, y4⟩, _⟩ := HLk.out W hSw; go_simp; (try (with_reducible rfl)))
                  try simp only [Act.put, List.setIfInBounds_toArray, List.set_cons_zero, List.set_cons_succ]
                  refine wpAnyH_take (i := 8) (oi := { dst := some 136, op := Op.move (Operand.tmp 7), type := 3, pos := _, after := #[], guard := none }) (v := ?_) rfl (by kernel_rfl) (by kernel_rfl) (by kernel_rfl) (fun _ _ _ h => h) (Or.inl ⟨by rfl, ?_⟩) (by first | trivial | assumption) ?_
                  rotate_left 1
                  · (intro W hSw; go_simp; (try (with_reducible rfl)))
                  try simp only [Act.put, List.setIfInBounds_toArray, List.set_cons_zero, List.set_cons_succ]
                  refine wpAnyH_take (i := 9) (oi := { dst := some 137, op := Op.indexAddr 45 (Operand.tmp 135) (Operand.tmp 136), type := 0, pos := _, after := #[{ on := 7, ground := Ground.data }, { on := 8, ground := Ground.data }], guard := none }) (v := ?_) rfl (by kernel_rfl) (by kernel_rfl) (by kernel_rfl) (fun _ _ _ h => h) (Or.inl ⟨by rfl, ?_⟩) (by first | trivial | assumption) ?_
                  rotate_left 1
                  · (intro W hSw; go_simp; (try (with_reducible rfl)))
                  try simp only [Act.put, List.setIfInBounds_toArray, List.set_cons_zero, List.set_cons_succ]
                  refine wpAnyH_take (i := 10) (oi := { dst := some 138, op := Op.load 26 (Operand.tmp 137), type := 26, pos := _, after := #[{ on := 9, ground := Ground.data }], guard := none }) (v := ?_) rfl (by kernel_rfl) (by kernel_rfl) (by kernel_rfl) (fun _ _ _ h => h) (Or.inl ⟨by rfl, ?_⟩) (by first | trivial | assumption) ?_
                  rotate_left 1
                  · (intro W hSw; obtain ⟨⟨y0, y1, y2, y3, y4⟩, _⟩ := HLk.out W hSw; go_simp; (try (with_reducible rfl)))
                  try simp only [Act.put, List.setIfInBounds_toArray, List.set_cons_zero, List.set_cons_succ]
                  refine wpAnyH_ready (rs := [11]) (by kernel_rfl) (by simp) ?_
                  refine (AllReadyH.cons rfl (fun K hK => ?_) AllReadyH.nil)
                  go_simp
                  (with_reducible refine (hIsT Wd hgA).mono ?_)
                  rintro e w7 ⟨rfl, hgn⟩
                  have hf7 := gb_trans hgA hgn
                  clear hgn
                  refine hK.out _ _ hf7 (fun hS => ?_)
                  clear hK K hS
                  try simp only [Act.put, List.setIfInBounds_toArray, List.set_cons_zero, List.set_cons_succ]
                  refine wpAnyH_take (i := 12) (oi := { dst := some 140, op := Op.move (Operand.tmp 139), type := 4, pos := _, after := #[{ on := 11, ground := Ground.data }, { on := 11, ground := Ground.chain }], guard := none }) (v := ?_) rfl (by kernel_rfl) (by kernel_rfl) (by kernel_rfl) (fun _ _ _ h => h) (Or.inl ⟨by rfl, ?_⟩) (by first | trivial | assumption) ?_
                  rotate_left 1
                  · (intro W hSw; go_simp; (try (with_reducible rfl)))
                  try simp only [Act.put, List.setIfInBounds_toArray, List.set_cons_zero, List.set_cons_succ]
                  refine wpAnyH_take (i := 13) (oi := { dst := some 141, op := Op.move (Operand.tmp 4), type := 55, pos := _, after := #[{ on := 12, ground := Ground.guard }], guard := some (12, true) }) (v := ?_) rfl (by kernel_rfl) (by kernel_rfl) (by kernel_rfl) (fun _ _ _ h => h) (Or.inl ⟨by rfl, ?_⟩) (by first | trivial | assumption) ?_
                  rotate_left 1
                  · (intro W hSw; go_simp; (try (with_reducible rfl)))
                  try simp only [Act.put, List.setIfInBounds_toArray, List.set_cons_zero, List.set_cons_succ]
                  refine wpAnyH_take (i := 14) (oi := { dst := some 142, op := Op.move (Operand.tmp 7), type := 3, pos := _, after := #[{ on := 12, ground := Ground.guard }], guard := some (12, true) }) (v := ?_) rfl (by kernel_rfl) (by kernel_rfl) (by kernel_rfl) (fun _ _ _ h => h) (Or.inl ⟨by rfl, ?_⟩) (by first | trivial | assumption) ?_
                  rotate_left 1
                  · (intro W hSw; go_simp; (try (with_reducible rfl)))
                  try simp only [Act.put, List.setIfInBounds_toArray, List.set_cons_zero, List.set_cons_succ]
                  refine wpAnyH_take (i := 15) (oi := { dst := some 143, op := Op.indexAddr 55 (Operand.tmp 141) (Operand.tmp 142), type := 0, pos := _, after := #[{ on := 13, ground := Ground.data }, { on := 14, ground := Ground.data }, { on := 12, ground := Ground.guard }], guard := some (12, true) }) (v := ?_) rfl (by kernel_rfl) (by kernel_rfl) (by kernel_rfl) (fun _ _ _ h => h) (Or.inl ⟨by rfl, ?_⟩) (by first | trivial | assumption) ?_
                  rotate_left 1
                  · (intro W hSw; go_simp; (try (with_reducible rfl)))
                  try simp only [Act.put, List.setIfInBounds_toArray, List.set_cons_zero, List.set_cons_succ]
                  refine wpAnyH_take (i := 16) (oi := { dst := some 144, op := Op.load 3 (Operand.tmp 143), type := 3, pos := _, after := #[{ on := 15, ground := Ground.data }, { on := 12, ground := Ground.guard }], guard := some (12, true) }) (v := ?_) rfl (by kernel_rfl) (by kernel_rfl) (by kernel_rfl) (fun _ _ _ h => h) (Or.inl ⟨by rfl, ?_⟩) (by first | trivial | assumption) ?_
                  rotate_left 1
                  · (intro W hSw; obtain ⟨⟨y0, y1, y2, y3, y4⟩, _⟩ := HLk.out W hSw; go_simp; (try (with_reducible rfl)))
                  try simp only [Act.put, List.setIfInBounds_toArray, List.set_cons_zero, List.set_cons_succ]
                  refine wpAnyH_take (i := 17) (oi := { dst := some 145, op := Op.binOp BinOp.eql 3 (Operand.tmp 144) (Operand.const (Value.int IntKind.i64 0)) 3, type := 4, pos := _, after := #[{ on := 16, ground := Ground.data }, { on := 12, ground := Ground.guard }], guard := some (12, true) }) (v := ?_) rfl (by kernel_rfl) (by kernel_rfl) (by kernel_rfl) (fun _ _ _ h => h) (Or.inl ⟨by rfl, ?_⟩) (by first | trivial | assumption) ?_
                  rotate_left 1
                  · (intro W hSw; go_simp; (try (with_reducible rfl)))
                  try simp only [Act.put, List.setIfInBounds_toArray, List.set_cons_zero, List.set_cons_succ]
                  refine wpAnyH_take (i := 18) (oi := { dst := some 146, op := Op.fieldAddr 28 (Operand.tmp 6) 0, type := 0, pos := _, after := #[{ on := 12, ground := Ground.guard }], guard := some (12, true) }) (v := ?_) rfl (by kernel_rfl) (by kernel_rfl) (by kernel_rfl) (fun _ _ _ h => h) (Or.inl ⟨by rfl, ?_⟩) (by first | trivial | assumption) ?_
                  rotate_left 1
                  · (intro W hSw; go_simp; (try (with_reducible rfl)))
                  try simp only [Act.put, List.setIfInBounds_toArray, List.set_cons_zero, List.set_cons_succ]
                  refine wpAnyH_take (i := 19) (oi := { dst := some 147, op := Op.load 3 (Operand.tmp 146), type := 3, pos := _, after := #[{ on := 18, ground := Ground.data }, { on := 12, ground := Ground.guard }], guard := some (12, true) }) (v := ?_) rfl (by kernel_rfl) (by kernel_rfl) (by kernel_rfl) (fun _ _ _ h => h) (Or.inl ⟨by rfl, ?_⟩) (by first | trivial | assumption) ?_
                  rotate_left 1
                  · (intro W hSw; obtain ⟨⟨y0, y1, y2, y3, y4⟩, _⟩ := HLk.out W hSw; go_simp; (try (with_reducible rfl)))
                  try simp only [Act.put, List.setIfInBounds_toArray, List.set_cons_zero, List.set_cons_succ]
                  refine wpAnyH_take (i := 20) (oi := { dst := some 148, op := Op.binOp BinOp.eql 3 (Operand.tmp 147) (Operand.const (Value.int IntKind.i64 4)) 3, type := 4, pos := _, after := #[{ on := 19, ground := Ground.data }, { on := 12, ground := Ground.guard }], guard := some (12, true) }) (v := ?_) rfl (by kernel_rfl) (by kernel_rfl) (by kernel_rfl) (fun _ _ _ h => h) (Or.inl ⟨by rfl, ?_⟩) (by first | trivial | assumption) ?_
                  rotate_left 1
                  · (intro W hSw; go_simp; (try (with_reducible rfl)))
                  try simp only [Act.put, List.setIfInBounds_toArray, List.set_cons_zero, List.set_cons_succ]
                  refine wpAnyH_take (i := 21) (oi := { dst := some 149, op := Op.move (Operand.tmp 148), type := 4, pos := _, after := #[{ on := 20, ground := Ground.data }, { on := 12, ground := Ground.chain }, { on := 12, ground := Ground.guard }], guard := some (12, true) }) (v := ?_) rfl (by kernel_rfl) (by kernel_rfl) (by kernel_rfl) (fun _ _ _ h => h) (Or.inl ⟨by rfl, ?_⟩) (by first | trivial | assumption) ?_
                  rotate_left 1
                  · (intro W hSw; go_simp; (try (with_reducible rfl)))
                  try simp only [Act.put, List.setIfInBounds_toArray, List.set_cons_zero, List.set_cons_succ]
                  refine wpAnyH_take (i := 22) (oi := { dst := some 150, op := Op.fieldAddr 28 (Operand.tmp 6) 0, type := 0, pos := _, after := #[{ on := 21, ground := Ground.guard }], guard := some (21, false) }) (v := ?_) rfl (by kernel_rfl) (by kernel_rfl) (by kernel_rfl) (fun _ _ _ h => h) (Or.inl ⟨by rfl, ?_⟩) (by first | trivial | assumption) ?_
                  rotate_left 1
                  · (intro W hSw; go_simp; (try (with_reducible rfl)))
                  try simp only [Act.put, List.setIfInBounds_toArray, List.set_cons_zero, List.set_cons_succ]
                  refine wpAnyH_take (i := 23) (oi := { dst := some 151, op := Op.load 3 (Operand.tmp 150), type := 3, pos := _, after := #[{ on := 22, ground := Ground.data }, { on := 21, ground := Ground.guard }], guard := some (21, false) }) (v := ?_) rfl (by kernel_rfl) (by kernel_rfl) (by kernel_rfl) (fun _ _ _ h => h) (Or.inl ⟨by rfl, ?_⟩) (by first | trivial | assumption) ?_
                  rotate_left 1
                  · (intro W hSw; obtain ⟨⟨y0, y1, y2, y3, y4⟩, _⟩ := HLk.out W hSw; go_simp; (try (with_reducible rfl)))
                  try simp only [Act.put, List.setIfInBounds_toArray, List.set_cons_zero, List.set_cons_succ]
                  refine wpAnyH_take (i := 24) (oi := { dst := some 152, op := Op.binOp BinOp.eql 3 (Operand.tmp 151) (Operand.const (Value.int IntKind.i64 5)) 3, type := 4, pos := _, after := #[{ on := 23, ground := Ground.data }, { on := 21, ground := Ground.guard }], guard := some (21, false) }) (v := ?_) rfl (by kernel_rfl) (by kernel_rfl) (by kernel_rfl) (fun _ _ _ h => h) (Or.inl ⟨by rfl, ?_⟩) (by first | trivial | assumption) ?_
                  rotate_left 1
                  · (intro W hSw; go_simp; (try (with_reducible rfl)))
                  try simp only [Act.put, List.setIfInBounds_toArray, List.set_cons_zero, List.set_cons_succ]
                  refine wpAnyH_take (i := 25) (oi := { dst := some 153, op := Op.pick (Operand.tmp 149) (Operand.const (Value.bool true)) (Operand.tmp 152), type := 4, pos := _, after := #[{ on := 21, ground := Ground.data }, { on := 24, ground := Ground.data }, { on := 12, ground := Ground.guard }], guard := some (12, true) }) (v := ?_) rfl (by kernel_rfl) (by kernel_rfl) (by kernel_rfl) (fun _ _ _ h => h) (Or.inl ⟨by rfl, ?_⟩) (by first | trivial | assumption) ?_
                  rotate_left 1
                  · (intro W hSw; go_simp; (try (with_reducible rfl)))
                  try simp only [Act.put, List.setIfInBounds_toArray, List.set_cons_zero, List.set_cons_succ]
                  refine wpAnyH_take (i := 26) (oi := { dst := some 154, op := Op.binOp BinOp.eql 4 (Operand.tmp 145) (Operand.tmp 153) 4, type := 4, pos := _, after := #[{ on := 17, ground := Ground.data }, { on := 25, ground := Ground.data }, { on := 12, ground := Ground.guard }], guard := some (12, true) }) (v := ?_) rfl (by kernel_rfl) (by kernel_rfl) (by kernel_rfl) (fun _ _ _ h => h) (Or.inl ⟨by rfl, ?_⟩) (by first | trivial | assumption) ?_
                  rotate_left 1
                  · (intro W hSw; go_simp; (try (with_reducible rfl)))
                  try simp only [Act.put, List.setIfInBounds_toArray, List.set_cons_zero, List.set_cons_succ]
                  refine wpAnyH_take (i := 27) (oi := { dst := some 155, op := Op.pick (Operand.tmp 140) (Operand.tmp 154) (Operand.const (Value.bool false)), type := 4, pos := _, after := #[{ on := 12, ground := Ground.data }, { on := 26, ground := Ground.data }], guard := none }) (v := ?_) rfl (by kernel_rfl) (by kernel_rfl) (by kernel_rfl) (fun _ _ _ h => h) (Or.inl ⟨by rfl, ?_⟩) (by first | trivial | assumption) ?_
                  rotate_left 1
                  · (intro W hSw; go_simp; (try (with_reducible rfl)))
                  try simp only [Act.put, List.setIfInBounds_toArray, List.set_cons_zero, List.set_cons_succ]
                  refine wpAnyH_take (i := 28) (oi := { dst := some 11, op := Op.assign (Operand.tmp 155), type := 4, pos := _, after := #[{ on := 27, ground := Ground.data }, { on := 21, ground := Ground.chain }, { on := 0, ground := Ground.phase }, { on := 1, ground := Ground.phase }, { on := 2, ground := Ground.phase }, { on := 3, ground := Ground.phase }, { on := 4, ground := Ground.phase }, { on := 5, ground := Ground.phase }, { on := 6, ground := Ground.phase }, { on := 7, ground := Ground.phase }, { on := 8, ground := Ground.phase }, { on := 9, ground := Ground.phase }, { on := 10, ground := Ground.phase }, { on := 11, ground := Ground.phase }, { on := 12, ground := Ground.phase }, { on := 13, ground := Ground.phase }, { on := 14, ground := Ground.phase }, { on := 15, ground := Ground.phase }, { on := 16, ground := Ground.phase }, { on := 17, ground := Ground.phase }, { on := 18, ground := Ground.phase }, { on := 19, ground := Ground.phase }, { on := 20, ground := Ground.phase }, { on := 21, ground := Ground.phase }, { on := 22, ground := Ground.phase }, { on := 23, ground := Ground.phase }, { on := 24, ground := Ground.phase }, { on := 25, ground := Ground.phase }, { on := 26, ground := Ground.phase }, { on := 27, ground := Ground.phase }], guard := none }) (v := ?_) rfl (by kernel_rfl) (by kernel_rfl) (by kernel_rfl) (fun _ _ _ h => h) (Or.inl ⟨by rfl, ?_⟩) (by first | trivial | assumption) ?_
                  rotate_left 1
                  · (intro W hSw; go_simp; (try (with_reducible rfl)))
                  try simp only [Act.put, List.setIfInBounds_toArray, List.set_cons_zero, List.set_cons_succ]
                  refine wpAnyH_done (by kernel_rfl) ?_ _
                  refine NoPanic.normal ?_
                  clear hIsT
                  go_wp2
                  exact ⟨⟨i + 1, by omega, by go_num, lw_stay HS.out HQ6.out.2.2 HQ6.out.1 HI.out HLEN.out HE0.out HQ6.out.2.1 hf7⟩, by simp [intOf]; omega⟩
                · have ej : ((j : Int) == 0) = false := by simpa using e
                  have he0 : er = 0 := her.2 ((hjx e).1)
                  have HE0 : Hid (er = 0) := he0
                  have he1 : (er == 0) = true := by simpa using he0
                  clear he0 her hjx hjn e
                  refine wp_region_noPanic ?_
                  refine wp_region_held_drew (S := fun W : World => w6.grownBy W none) (by kernel_rfl) (gb_drew (gb_refl w6 none)) (fun hgA => ?_)
                  generalize w6.drew = Wd at hgA ⊢
                  refine wpAnyH_take (i := 0) (oi := { dst := some 128, op := Op.move (Operand.tmp 3), type := 23, pos := _, after := #[], guard := none }) (v := ?_) rfl (by kernel_rfl) (by kernel_rfl) (by kernel_rfl) (fun _ _ _ h => h) (Or.inl ⟨by rfl, ?_⟩) (by first | trivial | assumption) ?_
                  rotate_left 1
                  · (intro W hSw; go_simp; (try (with_reducible rfl)))
                  try simp only [Act.put, List.setIfInBounds_toArray, List.set_cons_zero, List.set_cons_succ]
                  refine wpAnyH_take (i := 1) (oi := { dst := some 129, op := Op.nilCheck (Operand.tmp 128), type := 0, pos := _, after := #[{ on := 0, ground := Ground.data }], guard := none }) (v := ?_) rfl (by kernel_rfl) (by kernel_rfl) (by kernel_rfl) (fun _ _ _ h => h) (Or.inl ⟨by rfl, ?_⟩) (by first | trivial | assumption) ?_
                  rotate_left 1
                  · (intro W hSw; go_simp; (try (with_reducible rfl)))
                  try simp only [Act.put, List.setIfInBounds_toArray, List.set_cons_zero, List.set_cons_succ]
                  refine wpAnyH_take (i := 2) (oi := { dst := some 130, op := Op.fieldAddr 47 (Operand.tmp 129) 3, type := 0, pos := _, after := #[{ on := 1, ground := Ground.data }], guard := none }) (v := ?_) rfl (by kernel_rfl) (by kernel_rfl) (by kernel_rfl) (fun _ _ _ h => h) (Or.inl ⟨by rfl, ?_⟩) (by first | trivial | assumption) ?_
                  rotate_left 1
                  · (intro W hSw; go_simp; (try (with_reducible rfl)))
                  try simp only [Act.put, List.setIfInBounds_toArray, List.set_cons_zero, List.set_cons_succ]
                  refine wpAnyH_take (i := 3) (oi := { dst := some 131, op := Op.load 44 (Operand.tmp 130), type := 44, pos := _, after := #[{ on := 2, ground := Ground.data }], guard := none }) (v := ?_) rfl (by kernel_rfl) (by kernel_rfl) (by kernel_rfl) (fun _ _ _ h => h) (Or.inl ⟨by rfl, ?_⟩) (by first | trivial | assumption) ?_
                  rotate_left 1
                  · (intro W hSw; obtain ⟨⟨y0, y1, y2, y3, y4⟩, _⟩ := HLk.out W hSw; go_simp; (try (with_reducible rfl)))
                  try simp only [Act.put, List.setIfInBounds_toArray, List.set_cons_zero, List.set_cons_succ]
                  refine wpAnyH_take (i := 4) (oi := { dst := some 132, op := Op.move (Operand.tmp 3), type := 23, pos := _, after := #[], guard := none }) (v := ?_) rfl (by kernel_rfl) (by kernel_rfl) (by kernel_rfl) (fun _ _ _ h => h) (Or.inl ⟨by rfl, ?_⟩) (by first | trivial | assumption) ?_
                  rotate_left 1
                  · (intro W hSw; go_simp; (try (with_reducible rfl)))
                  try simp only [Act.put, List.setIfInBounds_toArray, List.set_cons_zero, List.set_cons_succ]
                  refine wpAnyH_take (i := 5) (oi := { dst := some 133, op := Op.nilCheck (Operand.tmp 132), type := 0, pos := _, after := #[{ on := 4, ground := Ground.data }], guard := none }) (v := ?_) rfl (by kernel_rfl) (by kernel_rfl) (by kernel_rfl) (fun _ _ _ h => h) (Or.inl ⟨by rfl, ?_⟩) (by first | trivial | assumption) ?_
                  rotate_left 1
                  · (intro W hSw; go_simp; (try (with_reducible rfl)))
                  try simp only [Act.put, List.setIfInBounds_toArray, List.set_cons_zero, List.set_cons_succ]
                  refine wpAnyH_take (i := 6) (oi := { dst := some 134, op := Op.fieldAddr 47 (Operand.tmp 133) 4, type := 0, pos := _, after := #[{ on := 5, ground := Ground.data }], guard := none }) (v := ?_) rfl (by kernel_rfl) (by kernel_rfl) (by kernel_rfl) (fun _ _ _ h => h) (Or.inl ⟨by rfl, ?_⟩) (by first | trivial | assumption) ?_
                  rotate_left 1
                  · (intro W hSw; go_simp; (try (with_reducible rfl)))
                  try simp only [Act.put, List.setIfInBounds_toArray, List.set_cons_zero, List.set_cons_succ]
                  refine wpAnyH_take (i := 7) (oi := { dst := some 135, op := Op.load 45 (Operand.tmp 134), type := 45, pos := _, after := #[{ on := 6, ground := Ground.data }], guard := none }) (v := ?_) rfl (by kernel_rfl) (by kernel_rfl) (by kernel_rfl) (fun _ _ _ h => h) (Or.inl ⟨by rfl, ?_⟩) (by first | trivial | assumption) ?_
                  rotate_left 1
                  · (intro W hSw; obtain ⟨⟨y0, y1, y2, y3, y4⟩, _⟩ := HLk.out W hSw; go_simp; (try (with_reducible rfl)))
                  try simp only [Act.put, List.setIfInBounds_toArray, List.set_cons_zero, List.set_cons_succ]
                  refine wpAnyH_take (i := 8) (oi := { dst := some 136, op := Op.move (Operand.tmp 7), type := 3, pos := _, after := #[], guard := none }) (v := ?_) rfl (by kernel_rfl) (by kernel_rfl) (by kernel_rfl) (fun _ _ _ h => h) (Or.inl ⟨by rfl, ?_⟩) (by first | trivial | assumption) ?_
                  rotate_left 1
                  · (intro W hSw; go_simp; (try (with_reducible rfl)))
                  try simp only [Act.put, List.setIfInBounds_toArray, List.set_cons_zero, List.set_cons_succ]
                  refine wpAnyH_take (i := 9) (oi := { dst := some 137, op := Op.indexAddr 45 (Operand.tmp 135) (Operand.tmp 136), type := 0, pos := _, after := #[{ on := 7, ground := Ground.data }, { on := 8, ground := Ground.data }], guard := none }) (v := ?_) rfl (by kernel_rfl) (by kernel_rfl) (by kernel_rfl) (fun _ _ _ h => h) (Or.inl ⟨by rfl, ?_⟩) (by first | trivial | assumption) ?_
                  rotate_left 1
                  · (intro W hSw; go_simp; (try (with_reducible rfl)))
                  try simp only [Act.put, List.setIfInBounds_toArray, List.set_cons_zero, List.set_cons_succ]
                  refine wpAnyH_take (i := 10) (oi := { dst := some 138, op := Op.load 26 (Operand.tmp 137), type := 26, pos := _, after := #[{ on := 9, ground := Ground.data }], guard := none }) (v := ?_) rfl (by kernel_rfl) (by kernel_rfl) (by kernel_rfl) (fun _ _ _ h => h) (Or.inl ⟨by rfl, ?_⟩) (by first | trivial | assumption) ?_
                  rotate_left 1
                  · (intro W hSw; obtain ⟨⟨y0, y1, y2, y3, y4⟩, _⟩ := HLk.out W hSw; go_simp; (try (with_reducible rfl)))
                  try simp only [Act.put, List.setIfInBounds_toArray, List.set_cons_zero, List.set_cons_succ]
                  refine wpAnyH_ready (rs := [11]) (by kernel_rfl) (by simp) ?_
                  refine (AllReadyH.cons rfl (fun K hK => ?_) AllReadyH.nil)
                  go_simp
                  (with_reducible refine (hIsT Wd hgA).mono ?_)
                  rintro e w7 ⟨rfl, hgn⟩
                  have hf7 := gb_trans hgA hgn
                  clear hgn
                  refine hK.out _ _ hf7 (fun hS => ?_)
                  clear hK K hS
                  try simp only [Act.put, List.setIfInBounds_toArray, List.set_cons_zero, List.set_cons_succ]
                  refine wpAnyH_take (i := 12) (oi := { dst := some 140, op := Op.move (Operand.tmp 139), type := 4, pos := _, after := #[{ on := 11, ground := Ground.data }, { on := 11, ground := Ground.chain }], guard := none }) (v := ?_) rfl (by kernel_rfl) (by kernel_rfl) (by kernel_rfl) (fun _ _ _ h => h) (Or.inl ⟨by rfl, ?_⟩) (by first | trivial | assumption) ?_
                  rotate_left 1
                  · (intro W hSw; go_simp; (try (with_reducible rfl)))
                  try simp only [Act.put, List.setIfInBounds_toArray, List.set_cons_zero, List.set_cons_succ]
                  refine wpAnyH_take (i := 13) (oi := { dst := some 141, op := Op.move (Operand.tmp 4), type := 55, pos := _, after := #[{ on := 12, ground := Ground.guard }], guard := some (12, true) }) (v := ?_) rfl (by kernel_rfl) (by kernel_rfl) (by kernel_rfl) (fun _ _ _ h => h) (Or.inl ⟨by rfl, ?_⟩) (by first | trivial | assumption) ?_
                  rotate_left 1
                  · (intro W hSw; go_simp; (try (with_reducible rfl)))
                  try simp only [Act.put, List.setIfInBounds_toArray, List.set_cons_zero, List.set_cons_succ]
                  refine wpAnyH_take (i := 14) (oi := { dst := some 142, op := Op.move (Operand.tmp 7), type := 3, pos := _, after := #[{ on := 12, ground := Ground.guard }], guard := some (12, true) }) (v := ?_) rfl (by kernel_rfl) (by kernel_rfl) (by kernel_rfl) (fun _ _ _ h => h) (Or.inl ⟨by rfl, ?_⟩) (by first | trivial | assumption) ?_
                  rotate_left 1
                  · (intro W hSw; go_simp; (try (with_reducible rfl)))
                  try simp only [Act.put, List.setIfInBounds_toArray, List.set_cons_zero, List.set_cons_succ]
                  refine wpAnyH_take (i := 15) (oi := { dst := some 143, op := Op.indexAddr 55 (Operand.tmp 141) (Operand.tmp 142), type := 0, pos := _, after := #[{ on := 13, ground := Ground.data }, { on := 14, ground := Ground.data }, { on := 12, ground := Ground.guard }], guard := some (12, true) }) (v := ?_) rfl (by kernel_rfl) (by kernel_rfl) (by kernel_rfl) (fun _ _ _ h => h) (Or.inl ⟨by rfl, ?_⟩) (by first | trivial | assumption) ?_
                  rotate_left 1
                  · (intro W hSw; go_simp; (try (with_reducible rfl)))
                  try simp only [Act.put, List.setIfInBounds_toArray, List.set_cons_zero, List.set_cons_succ]
                  refine wpAnyH_take (i := 16) (oi := { dst := some 144, op := Op.load 3 (Operand.tmp 143), type := 3, pos := _, after := #[{ on := 15, ground := Ground.data }, { on := 12, ground := Ground.guard }], guard := some (12, true) }) (v := ?_) rfl (by kernel_rfl) (by kernel_rfl) (by kernel_rfl) (fun _ _ _ h => h) (Or.inl ⟨by rfl, ?_⟩) (by first | trivial | assumption) ?_
                  rotate_left 1
                  · (intro W hSw; obtain ⟨⟨y0, y1, y2, y3, y4⟩, _⟩ := HLk.out W hSw; go_simp; (try (with_reducible rfl)))
                  try simp only [Act.put, List.setIfInBounds_toArray, List.set_cons_zero, List.set_cons_succ]
                  refine wpAnyH_take (i := 17) (oi := { dst := some 145, op := Op.binOp BinOp.eql 3 (Operand.tmp 144) (Operand.const (Value.int IntKind.i64 0)) 3, type := 4, pos := _, after := #[{ on := 16, ground := Ground.data }, { on := 12, ground := Ground.guard }], guard := some (12, true) }) (v := ?_) rfl (by kernel_rfl) (by kernel_rfl) (by kernel_rfl) (fun _ _ _ h => h) (Or.inl ⟨by rfl, ?_⟩) (by first | trivial | assumption) ?_
                  rotate_left 1
                  · (intro W hSw; go_simp; (try (with_reducible rfl)))
                  try simp only [Act.put, List.setIfInBounds_toArray, List.set_cons_zero, List.set_cons_succ]
                  refine wpAnyH_take (i := 18) (oi := { dst := some 146, op := Op.fieldAddr 28 (Operand.tmp 6) 0, type := 0, pos := _, after := #[{ on := 12, ground := Ground.guard }], guard := some (12, true) }) (v := ?_) rfl (by kernel_rfl) (by kernel_rfl) (by kernel_rfl) (fun _ _ _ h => h) (Or.inl ⟨by rfl, ?_⟩) (by first | trivial | assumption) ?_
                  rotate_left 1
                  · (intro W hSw; go_simp; (try (with_reducible rfl)))
                  try simp only [Act.put, List.setIfInBounds_toArray, List.set_cons_zero, List.set_cons_succ]
                  refine wpAnyH_take (i := 19) (oi := { dst := some 147, op := Op.load 3 (Operand.tmp 146), type := 3, pos := _, after := #[{ on := 18, ground := Ground.data }, { on := 12, ground := Ground.guard }], guard := some (12, true) }) (v := ?_) rfl (by kernel_rfl) (by kernel_rfl) (by kernel_rfl) (fun _ _ _ h => h) (Or.inl ⟨by rfl, ?_⟩) (by first | trivial | assumption) ?_
                  rotate_left 1
                  · (intro W hSw; obtain ⟨⟨y0, y1, y2, y3, y4⟩, _⟩ := HLk.out W hSw; go_simp; (try (with_reducible rfl)))
                  try simp only [Act.put, List.setIfInBounds_toArray, List.set_cons_zero, List.set_cons_succ]
                  refine wpAnyH_take (i := 20) (oi := { dst := some 148, op := Op.binOp BinOp.eql 3 (Operand.tmp 147) (Operand.const (Value.int IntKind.i64 4)) 3, type := 4, pos := _, after := #[{ on := 19, ground := Ground.data }, { on := 12, ground := Ground.guard }], guard := some (12, true) }) (v := ?_) rfl (by kernel_rfl) (by kernel_rfl) (by kernel_rfl) (fun _ _ _ h => h) (Or.inl ⟨by rfl, ?_⟩) (by first | trivial | assumption) ?_
                  rotate_left 1
                  · (intro W hSw; go_simp; (try (with_reducible rfl)))
                  try simp only [Act.put, List.setIfInBounds_toArray, List.set_cons_zero, List.set_cons_succ]
                  refine wpAnyH_take (i := 21) (oi := { dst := some 149, op := Op.move (Operand.tmp 148), type := 4, pos := _, after := #[{ on := 20, ground := Ground.data }, { on := 12, ground := Ground.chain }, { on := 12, ground := Ground.guard }], guard := some (12, true) }) (v := ?_) rfl (by kernel_rfl) (by kernel_rfl) (by kernel_rfl) (fun _ _ _ h => h) (Or.inl ⟨by rfl, ?_⟩) (by first | trivial | assumption) ?_
                  rotate_left 1
                  · (intro W hSw; go_simp; (try (with_reducible rfl)))
                  try simp only [Act.put, List.setIfInBounds_toArray, List.set_cons_zero, List.set_cons_succ]
                  refine wpAnyH_take (i := 22) (oi := { dst := some 150, op := Op.fieldAddr 28 (Operand.tmp 6) 0, type := 0, pos := _, after := #[{ on := 21, ground := Ground.guard }], guard := some (21, false) }) (v := ?_) rfl (by kernel_rfl) (by kernel_rfl) (by kernel_rfl) (fun _ _ _ h => h) (Or.inl ⟨by rfl, ?_⟩) (by first | trivial | assumption) ?_
                  rotate_left 1
                  · (intro W hSw; go_simp; (try (with_reducible rfl)))
                  try simp only [Act.put, List.setIfInBounds_toArray, List.set_cons_zero, List.set_cons_succ]
                  refine wpAnyH_take (i := 23) (oi := { dst := some 151, op := Op.load 3 (Operand.tmp 150), type := 3, pos := _, after := #[{ on := 22, ground := Ground.data }, { on := 21, ground := Ground.guard }], guard := some (21, false) }) (v := ?_) rfl (by kernel_rfl) (by kernel_rfl) (by kernel_rfl) (fun _ _ _ h => h) (Or.inl ⟨by rfl, ?_⟩) (by first | trivial | assumption) ?_
                  rotate_left 1
                  · (intro W hSw; obtain ⟨⟨y0, y1, y2, y3, y4⟩, _⟩ := HLk.out W hSw; go_simp; (try (with_reducible rfl)))
                  try simp only [Act.put, List.setIfInBounds_toArray, List.set_cons_zero, List.set_cons_succ]
                  refine wpAnyH_take (i := 24) (oi := { dst := some 152, op := Op.binOp BinOp.eql 3 (Operand.tmp 151) (Operand.const (Value.int IntKind.i64 5)) 3, type := 4, pos := _, after := #[{ on := 23, ground := Ground.data }, { on := 21, ground := Ground.guard }], guard := some (21, false) }) (v := ?_) rfl (by kernel_rfl) (by kernel_rfl) (by kernel_rfl) (fun _ _ _ h => h) (Or.inl ⟨by rfl, ?_⟩) (by first | trivial | assumption) ?_
                  rotate_left 1
                  · (intro W hSw; go_simp; (try (with_reducible rfl)))
                  try simp only [Act.put, List.setIfInBounds_toArray, List.set_cons_zero, List.set_cons_succ]
                  refine wpAnyH_take (i := 25) (oi := { dst := some 153, op := Op.pick (Operand.tmp 149) (Operand.const (Value.bool true)) (Operand.tmp 152), type := 4, pos := _, after := #[{ on := 21, ground := Ground.data }, { on := 24, ground := Ground.data }, { on := 12, ground := Ground.guard }], guard := some (12, true) }) (v := ?_) rfl (by kernel_rfl) (by kernel_rfl) (by kernel_rfl) (fun _ _ _ h => h) (Or.inl ⟨by rfl, ?_⟩) (by first | trivial | assumption) ?_
                  rotate_left 1
                  · (intro W hSw; go_simp; (try (with_reducible rfl)))
                  try simp only [Act.put, List.setIfInBounds_toArray, List.set_cons_zero, List.set_cons_succ]
                  refine wpAnyH_take (i := 26) (oi := { dst := some 154, op := Op.binOp BinOp.eql 4 (Operand.tmp 145) (Operand.tmp 153) 4, type := 4, pos := _, after := #[{ on := 17, ground := Ground.data }, { on := 25, ground := Ground.data }, { on := 12, ground := Ground.guard }], guard := some (12, true) }) (v := ?_) rfl (by kernel_rfl) (by kernel_rfl) (by kernel_rfl) (fun _ _ _ h => h) (Or.inl ⟨by rfl, ?_⟩) (by first | trivial | assumption) ?_
                  rotate_left 1
                  · (intro W hSw; go_simp; (try (with_reducible rfl)))
                  try simp only [Act.put, List.setIfInBounds_toArray, List.set_cons_zero, List.set_cons_succ]
                  refine wpAnyH_take (i := 27) (oi := { dst := some 155, op := Op.pick (Operand.tmp 140) (Operand.tmp 154) (Operand.const (Value.bool false)), type := 4, pos := _, after := #[{ on := 12, ground := Ground.data }, { on := 26, ground := Ground.data }], guard := none }) (v := ?_) rfl (by kernel_rfl) (by kernel_rfl) (by kernel_rfl) (fun _ _ _ h => h) (Or.inl ⟨by rfl, ?_⟩) (by first | trivial | assumption) ?_
                  rotate_left 1
                  · (intro W hSw; go_simp; (try (with_reducible rfl)))
                  try simp only [Act.put, List.setIfInBounds_toArray, List.set_cons_zero, List.set_cons_succ]
                  refine wpAnyH_take (i := 28) (oi := { dst := some 11, op := Op.assign (Operand.tmp 155), type := 4, pos := _, after := #[{ on := 27, ground := Ground.data }, { on := 21, ground := Ground.chain }, { on := 0, ground := Ground.phase }, { on := 1, ground := Ground.phase }, { on := 2, ground := Ground.phase }, { on := 3, ground := Ground.phase }, { on := 4, ground := Ground.phase }, { on := 5, ground := Ground.phase }, { on := 6, ground := Ground.phase }, { on := 7, ground := Ground.phase }, { on := 8, ground := Ground.phase }, { on := 9, ground := Ground.phase }, { on := 10, ground := Ground.phase }, { on := 11, ground := Ground.phase }, { on := 12, ground := Ground.phase }, { on := 13, ground := Ground.phase }, { on := 14, ground := Ground.phase }, { on := 15, ground := Ground.phase }, { on := 16, ground := Ground.phase }, { on := 17, ground := Ground.phase }, { on := 18, ground := Ground.phase }, { on := 19, ground := Ground.phase }, { on := 20, ground := Ground.phase }, { on := 21, ground := Ground.phase }, { on := 22, ground := Ground.phase }, { on := 23, ground := Ground.phase }, { on := 24, ground := Ground.phase }, { on := 25, ground := Ground.phase }, { on := 26, ground := Ground.phase }, { on := 27, ground := Ground.phase }], guard := none }) (v := ?_) rfl (by kernel_rfl) (by kernel_rfl) (by kernel_rfl) (fun _ _ _ h => h) (Or.inl ⟨by rfl, ?_⟩) (by first | trivial | assumption) ?_
                  rotate_left 1
                  · (intro W hSw; go_simp; (try (with_reducible rfl)))
                  try simp only [Act.put, List.setIfInBounds_toArray, List.set_cons_zero, List.set_cons_succ]
                  refine wpAnyH_done (by kernel_rfl) ?_ _
                  refine NoPanic.normal ?_
                  clear hIsT
                  have hk9 := HLk.out w7 hf7
                  obtain ⟨⟨_, _, _, x1, _⟩, x2⟩ := hk9
                  go_wp2
                  have hme := HQ6.out.2.1
                  rw [HE0.out] at hme
                  exact ⟨⟨i + 1, by omega, by go_num, lw_goes HS.out HQ6.out.2.2 HQ6.out.1 HI.out HLEN.out hme HH.out (fun c i h => by simp at h; omega) (by simp [kdOf]) hf7⟩, by simp [intOf]; omega⟩
              · have hIsT := fun W hW => by have := HIs.out W hW; rw [decide_eq_false hm] at this; exact this
                have he0 : er ≠ 0 := fun e2 => (by obtain ⟨c, k, hck⟩ := her.1 e2; rcases Nat.eq_zero_or_pos j with e | e; exact hjn e c k hck; exact hm (hjx (by omega)).2)
                have he1 : (er == 0) = false := by simpa using he0
                have HE0 : Hid (er ≠ 0) := he0
                clear he0 her hjx hjn
                try clear e
                refine wp_region_noPanic ?_
                refine wp_region_held_drew (S := fun W : World => w6.grownBy W none) (by kernel_rfl) (gb_drew (gb_refl w6 none)) (fun hgA => ?_)
                generalize w6.drew = Wd at hgA ⊢
                refine wpAnyH_take (i := 0) (oi := { dst := some 128, op := Op.move (Operand.tmp 3), type := 23, pos := _, after := #[], guard := none }) (v := ?_) rfl (by kernel_rfl) (by kernel_rfl) (by kernel_rfl) (fun _ _ _ h => h) (Or.inl ⟨by rfl, ?_⟩) (by first | trivial | assumption) ?_
                rotate_left 1
                · (intro W hSw; go_simp; (try (with_reducible rfl)))
                try simp only [Act.put, List.setIfInBounds_toArray, List.set_cons_zero, List.set_cons_succ]
                refine wpAnyH_take (i := 1) (oi := { dst := some 129, op := Op.nilCheck (Operand.tmp 128), type := 0, pos := _, after := #[{ on := 0, ground := Ground.data }], guard := none }) (v := ?_) rfl (by kernel_rfl) (by kernel_rfl) (by kernel_rfl) (fun _ _ _ h => h) (Or.inl ⟨by rfl, ?_⟩) (by first | trivial | assumption) ?_
                rotate_left 1
                · (intro W hSw; go_simp; (try (with_reducible rfl)))
                try simp only [Act.put, List.setIfInBounds_toArray, List.set_cons_zero, List.set_cons_succ]
                refine wpAnyH_take (i := 2) (oi := { dst := some 130, op := Op.fieldAddr 47 (Operand.tmp 129) 3, type := 0, pos := _, after := #[{ on := 1, ground := Ground.data }], guard := none }) (v := ?_) rfl (by kernel_rfl) (by kernel_rfl) (by kernel_rfl) (fun _ _ _ h => h) (Or.inl ⟨by rfl, ?_⟩) (by first | trivial | assumption) ?_
                rotate_left 1
                · (intro W hSw; go_simp; (try (with_reducible rfl)))
                try simp only [Act.put, List.setIfInBounds_toArray, List.set_cons_zero, List.set_cons_succ]
                refine wpAnyH_take (i := 3) (oi := { dst := some 131, op := Op.load 44 (Operand.tmp 130), type := 44, pos := _, after := #[{ on := 2, ground := Ground.data }], guard := none }) (v := ?_) rfl (by kernel_rfl) (by kernel_rfl) (by kernel_rfl) (fun _ _ _ h => h) (Or.inl ⟨by rfl, ?_⟩) (by first | trivial | assumption) ?_
                rotate_left 1
                · (intro W hSw; obtain ⟨⟨y0, y1, y2, y3, y4⟩, _⟩ := HLk.out W hSw; go_simp; (try (with_reducible rfl)))
                try simp only [Act.put, List.setIfInBounds_toArray, List.set_cons_zero, List.set_cons_succ]
                refine wpAnyH_take (i := 4) (oi := { dst := some 132, op := Op.move (Operand.tmp 3), type := 23, pos := _, after := #[], guard := none }) (v := ?_) rfl (by kernel_rfl) (by kernel_rfl) (by kernel_rfl) (fun _ _ _ h => h) (Or.inl ⟨by rfl, ?_⟩) (by first | trivial | assumption) ?_
                rotate_left 1
                · (intro W hSw; go_simp; (try (with_reducible rfl)))
                try simp only [Act.put, List.setIfInBounds_toArray, List.set_cons_zero, List.set_cons_succ]
                refine wpAnyH_take (i := 5) (oi := { dst := some 133, op := Op.nilCheck (Operand.tmp 132), type := 0, pos := _, after := #[{ on := 4, ground := Ground.data }], guard := none }) (v := ?_) rfl (by kernel_rfl) (by kernel_rfl) (by kernel_rfl) (fun _ _ _ h => h) (Or.inl ⟨by rfl, ?_⟩) (by first | trivial | assumption) ?_
                rotate_left 1
                · (intro W hSw; go_simp; (try (with_reducible rfl)))
                try simp only [Act.put, List.setIfInBounds_toArray, List.set_cons_zero, List.set_cons_succ]
                refine wpAnyH_take (i := 6) (oi := { dst := some 134, op := Op.fieldAddr 47 (Operand.tmp 133) 4, type := 0, pos := _, after := #[{ on := 5, ground := Ground.data }], guard := none }) (v := ?_) rfl (by kernel_rfl) (by kernel_rfl) (by kernel_rfl) (fun _ _ _ h => h) (Or.inl ⟨by rfl, ?_⟩) (by first | trivial | assumption) ?_
                rotate_left 1
                · (intro W hSw; go_simp; (try (with_reducible rfl)))
                try simp only [Act.put, List.setIfInBounds_toArray, List.set_cons_zero, List.set_cons_succ]
                refine wpAnyH_take (i := 7) (oi := { dst := some 135, op := Op.load 45 (Operand.tmp 134), type := 45, pos := _, after := #[{ on := 6, ground := Ground.data }], guard := none }) (v := ?_) rfl (by kernel_rfl) (by kernel_rfl) (by kernel_rfl) (fun _ _ _ h => h) (Or.inl ⟨by rfl, ?_⟩) (by first | trivial | assumption) ?_
                rotate_left 1
                · (intro W hSw; obtain ⟨⟨y0, y1, y2, y3, y4⟩, _⟩ := HLk.out W hSw; go_simp; (try (with_reducible rfl)))
                try simp only [Act.put, List.setIfInBounds_toArray, List.set_cons_zero, List.set_cons_succ]
                refine wpAnyH_take (i := 8) (oi := { dst := some 136, op := Op.move (Operand.tmp 7), type := 3, pos := _, after := #[], guard := none }) (v := ?_) rfl (by kernel_rfl) (by kernel_rfl) (by kernel_rfl) (fun _ _ _ h => h) (Or.inl ⟨by rfl, ?_⟩) (by first | trivial | assumption) ?_
                rotate_left 1
                · (intro W hSw; go_simp; (try (with_reducible rfl)))
                try simp only [Act.put, List.setIfInBounds_toArray, List.set_cons_zero, List.set_cons_succ]
                refine wpAnyH_take (i := 9) (oi := { dst := some 137, op := Op.indexAddr 45 (Operand.tmp 135) (Operand.tmp 136), type := 0, pos := _, after := #[{ on := 7, ground := Ground.data }, { on := 8, ground := Ground.data }], guard := none }) (v := ?_) rfl (by kernel_rfl) (by kernel_rfl) (by kernel_rfl) (fun _ _ _ h => h) (Or.inl ⟨by rfl, ?_⟩) (by first | trivial | assumption) ?_
                rotate_left 1
                · (intro W hSw; go_simp; (try (with_reducible rfl)))
                try simp only [Act.put, List.setIfInBounds_toArray, List.set_cons_zero, List.set_cons_succ]
                refine wpAnyH_take (i := 10) (oi := { dst := some 138, op := Op.load 26 (Operand.tmp 137), type := 26, pos := _, after := #[{ on := 9, ground := Ground.data }], guard := none }) (v := ?_) rfl (by kernel_rfl) (by kernel_rfl) (by kernel_rfl) (fun _ _ _ h => h) (Or.inl ⟨by rfl, ?_⟩) (by first | trivial | assumption) ?_
                rotate_left 1
                · (intro W hSw; obtain ⟨⟨y0, y1, y2, y3, y4⟩, _⟩ := HLk.out W hSw; go_simp; (try (with_reducible rfl)))
                try simp only [Act.put, List.setIfInBounds_toArray, List.set_cons_zero, List.set_cons_succ]
                refine wpAnyH_ready (rs := [11]) (by kernel_rfl) (by simp) ?_
                refine (AllReadyH.cons rfl (fun K hK => ?_) AllReadyH.nil)
                go_simp
                (with_reducible refine (hIsT Wd hgA).mono ?_)
                rintro e w7 ⟨rfl, hgn⟩
                have hf7 := gb_trans hgA hgn
                clear hgn
                refine hK.out _ _ hf7 (fun hS => ?_)
                clear hK K hS
                try simp only [Act.put, List.setIfInBounds_toArray, List.set_cons_zero, List.set_cons_succ]
                refine wpAnyH_take (i := 12) (oi := { dst := some 140, op := Op.move (Operand.tmp 139), type := 4, pos := _, after := #[{ on := 11, ground := Ground.data }, { on := 11, ground := Ground.chain }], guard := none }) (v := ?_) rfl (by kernel_rfl) (by kernel_rfl) (by kernel_rfl) (fun _ _ _ h => h) (Or.inl ⟨by rfl, ?_⟩) (by first | trivial | assumption) ?_
                rotate_left 1
                · (intro W hSw; go_simp; (try (with_reducible rfl)))
                try simp only [Act.put, List.setIfInBounds_toArray, List.set_cons_zero, List.set_cons_succ]
                refine wpAnyH_take (i := 13) (oi := { dst := some 141, op := Op.move (Operand.tmp 4), type := 55, pos := _, after := #[{ on := 12, ground := Ground.guard }], guard := some (12, true) }) (v := undef) rfl (by kernel_rfl) (by kernel_rfl) (by kernel_rfl) (fun _ _ _ h => h) (Or.inr ⟨by rfl, rfl⟩) (by first | trivial | assumption) ?_
                try simp only [Act.put, List.setIfInBounds_toArray, List.set_cons_zero, List.set_cons_succ]
                refine wpAnyH_take (i := 14) (oi := { dst := some 142, op := Op.move (Operand.tmp 7), type := 3, pos := _, after := #[{ on := 12, ground := Ground.guard }], guard := some (12, true) }) (v := undef) rfl (by kernel_rfl) (by kernel_rfl) (by kernel_rfl) (fun _ _ _ h => h) (Or.inr ⟨by rfl, rfl⟩) (by first | trivial | assumption) ?_
                try simp only [Act.put, List.setIfInBounds_toArray, List.set_cons_zero, List.set_cons_succ]
                refine wpAnyH_take (i := 15) (oi := { dst := some 143, op := Op.indexAddr 55 (Operand.tmp 141) (Operand.tmp 142), type := 0, pos := _, after := #[{ on := 13, ground := Ground.data }, { on := 14, ground := Ground.data }, { on := 12, ground := Ground.guard }], guard := some (12, true) }) (v := undef) rfl (by kernel_rfl) (by kernel_rfl) (by kernel_rfl) (fun _ _ _ h => h) (Or.inr ⟨by rfl, rfl⟩) (by first | trivial | assumption) ?_
                try simp only [Act.put, List.setIfInBounds_toArray, List.set_cons_zero, List.set_cons_succ]
                refine wpAnyH_take (i := 16) (oi := { dst := some 144, op := Op.load 3 (Operand.tmp 143), type := 3, pos := _, after := #[{ on := 15, ground := Ground.data }, { on := 12, ground := Ground.guard }], guard := some (12, true) }) (v := undef) rfl (by kernel_rfl) (by kernel_rfl) (by kernel_rfl) (fun _ _ _ h => h) (Or.inr ⟨by rfl, rfl⟩) (by first | trivial | assumption) ?_
                try simp only [Act.put, List.setIfInBounds_toArray, List.set_cons_zero, List.set_cons_succ]
                refine wpAnyH_take (i := 17) (oi := { dst := some 145, op := Op.binOp BinOp.eql 3 (Operand.tmp 144) (Operand.const (Value.int IntKind.i64 0)) 3, type := 4, pos := _, after := #[{ on := 16, ground := Ground.data }, { on := 12, ground := Ground.guard }], guard := some (12, true) }) (v := undef) rfl (by kernel_rfl) (by kernel_rfl) (by kernel_rfl) (fun _ _ _ h => h) (Or.inr ⟨by rfl, rfl⟩) (by first | trivial | assumption) ?_
                try simp only [Act.put, List.setIfInBounds_toArray, List.set_cons_zero, List.set_cons_succ]
                refine wpAnyH_take (i := 18) (oi := { dst := some 146, op := Op.fieldAddr 28 (Operand.tmp 6) 0, type := 0, pos := _, after := #[{ on := 12, ground := Ground.guard }], guard := some (12, true) }) (v := undef) rfl (by kernel_rfl) (by kernel_rfl) (by kernel_rfl) (fun _ _ _ h => h) (Or.inr ⟨by rfl, rfl⟩) (by first | trivial | assumption) ?_
                try simp only [Act.put, List.setIfInBounds_toArray, List.set_cons_zero, List.set_cons_succ]
                refine wpAnyH_take (i := 19) (oi := { dst := some 147, op := Op.load 3 (Operand.tmp 146), type := 3, pos := _, after := #[{ on := 18, ground := Ground.data }, { on := 12, ground := Ground.guard }], guard := some (12, true) }) (v := undef) rfl (by kernel_rfl) (by kernel_rfl) (by kernel_rfl) (fun _ _ _ h => h) (Or.inr ⟨by rfl, rfl⟩) (by first | trivial | assumption) ?_
                try simp only [Act.put, List.setIfInBounds_toArray, List.set_cons_zero, List.set_cons_succ]
                refine wpAnyH_take (i := 20) (oi := { dst := some 148, op := Op.binOp BinOp.eql 3 (Operand.tmp 147) (Operand.const (Value.int IntKind.i64 4)) 3, type := 4, pos := _, after := #[{ on := 19, ground := Ground.data }, { on := 12, ground := Ground.guard }], guard := some (12, true) }) (v := undef) rfl (by kernel_rfl) (by kernel_rfl) (by kernel_rfl) (fun _ _ _ h => h) (Or.inr ⟨by rfl, rfl⟩) (by first | trivial | assumption) ?_
                try simp only [Act.put, List.setIfInBounds_toArray, List.set_cons_zero, List.set_cons_succ]
                refine wpAnyH_take (i := 21) (oi := { dst := some 149, op := Op.move (Operand.tmp 148), type := 4, pos := _, after := #[{ on := 20, ground := Ground.data }, { on := 12, ground := Ground.chain }, { on := 12, ground := Ground.guard }], guard := some (12, true) }) (v := undef) rfl (by kernel_rfl) (by kernel_rfl) (by kernel_rfl) (fun _ _ _ h => h) (Or.inr ⟨by rfl, rfl⟩) (by first | trivial | assumption) ?_
                try simp only [Act.put, List.setIfInBounds_toArray, List.set_cons_zero, List.set_cons_succ]
                refine wpAnyH_take (i := 22) (oi := { dst := some 150, op := Op.fieldAddr 28 (Operand.tmp 6) 0, type := 0, pos := _, after := #[{ on := 21, ground := Ground.guard }], guard := some (21, false) }) (v := undef) rfl (by kernel_rfl) (by kernel_rfl) (by kernel_rfl) (fun _ _ _ h => h) (Or.inr ⟨by rfl, rfl⟩) (by first | trivial | assumption) ?_
                try simp only [Act.put, List.setIfInBounds_toArray, List.set_cons_zero, List.set_cons_succ]
                refine wpAnyH_take (i := 23) (oi := { dst := some 151, op := Op.load 3 (Operand.tmp 150), type := 3, pos := _, after := #[{ on := 22, ground := Ground.data }, { on := 21, ground := Ground.guard }], guard := some (21, false) }) (v := undef) rfl (by kernel_rfl) (by kernel_rfl) (by kernel_rfl) (fun _ _ _ h => h) (Or.inr ⟨by rfl, rfl⟩) (by first | trivial | assumption) ?_
                try simp only [Act.put, List.setIfInBounds_toArray, List.set_cons_zero, List.set_cons_succ]
                refine wpAnyH_take (i := 24) (oi := { dst := some 152, op := Op.binOp BinOp.eql 3 (Operand.tmp 151) (Operand.const (Value.int IntKind.i64 5)) 3, type := 4, pos := _, after := #[{ on := 23, ground := Ground.data }, { on := 21, ground := Ground.guard }], guard := some (21, false) }) (v := undef) rfl (by kernel_rfl) (by kernel_rfl) (by kernel_rfl) (fun _ _ _ h => h) (Or.inr ⟨by rfl, rfl⟩) (by first | trivial | assumption) ?_
                try simp only [Act.put, List.setIfInBounds_toArray, List.set_cons_zero, List.set_cons_succ]
                refine wpAnyH_take (i := 25) (oi := { dst := some 153, op := Op.pick (Operand.tmp 149) (Operand.const (Value.bool true)) (Operand.tmp 152), type := 4, pos := _, after := #[{ on := 21, ground := Ground.data }, { on := 24, ground := Ground.data }, { on := 12, ground := Ground.guard }], guard := some (12, true) }) (v := undef) rfl (by kernel_rfl) (by kernel_rfl) (by kernel_rfl) (fun _ _ _ h => h) (Or.inr ⟨by rfl, rfl⟩) (by first | trivial | assumption) ?_
                try simp only [Act.put, List.setIfInBounds_toArray, List.set_cons_zero, List.set_cons_succ]
                refine wpAnyH_take (i := 26) (oi := { dst := some 154, op := Op.binOp BinOp.eql 4 (Operand.tmp 145) (Operand.tmp 153) 4, type := 4, pos := _, after := #[{ on := 17, ground := Ground.data }, { on := 25, ground := Ground.data }, { on := 12, ground := Ground.guard }], guard := some (12, true) }) (v := undef) rfl (by kernel_rfl) (by kernel_rfl) (by kernel_rfl) (fun _ _ _ h => h) (Or.inr ⟨by rfl, rfl⟩) (by first | trivial | assumption) ?_
                try simp only [Act.put, List.setIfInBounds_toArray, List.set_cons_zero, List.set_cons_succ]
                refine wpAnyH_take (i := 27) (oi := { dst := some 155, op := Op.pick (Operand.tmp 140) (Operand.tmp 154) (Operand.const (Value.bool false)), type := 4, pos := _, after := #[{ on := 12, ground := Ground.data }, { on := 26, ground := Ground.data }], guard := none }) (v := ?_) rfl (by kernel_rfl) (by kernel_rfl) (by kernel_rfl) (fun _ _ _ h => h) (Or.inl ⟨by rfl, ?_⟩) (by first | trivial | assumption) ?_
                rotate_left 1
                · (intro W hSw; go_simp; (try (with_reducible rfl)))
                try simp only [Act.put, List.setIfInBounds_toArray, List.set_cons_zero, List.set_cons_succ]
                refine wpAnyH_take (i := 28) (oi := { dst := some 11, op := Op.assign (Operand.tmp 155), type := 4, pos := _, after := #[{ on := 27, ground := Ground.data }, { on := 21, ground := Ground.chain }, { on := 0, ground := Ground.phase }, { on := 1, ground := Ground.phase }, { on := 2, ground := Ground.phase }, { on := 3, ground := Ground.phase }, { on := 4, ground := Ground.phase }, { on := 5, ground := Ground.phase }, { on := 6, ground := Ground.phase }, { on := 7, ground := Ground.phase }, { on := 8, ground := Ground.phase }, { on := 9, ground := Ground.phase }, { on := 10, ground := Ground.phase }, { on := 11, ground := Ground.phase }, { on := 12, ground := Ground.phase }, { on := 13, ground := Ground.phase }, { on := 14, ground := Ground.phase }, { on := 15, ground := Ground.phase }, { on := 16, ground := Ground.phase }, { on := 17, ground := Ground.phase }, { on := 18, ground := Ground.phase }, { on := 19, ground := Ground.phase }, { on := 20, ground := Ground.phase }, { on := 21, ground := Ground.phase }, { on := 22, ground := Ground.phase }, { on := 23, ground := Ground.phase }, { on := 24, ground := Ground.phase }, { on := 25, ground := Ground.phase }, { on := 26, ground := Ground.phase }, { on := 27, ground := Ground.phase }], guard := none }) (v := ?_) rfl (by kernel_rfl) (by kernel_rfl) (by kernel_rfl) (fun _ _ _ h => h) (Or.inl ⟨by rfl, ?_⟩) (by first | trivial | assumption) ?_
                rotate_left 1
                · (intro W hSw; go_simp; (try (with_reducible rfl)))
                try simp only [Act.put, List.setIfInBounds_toArray, List.set_cons_zero, List.set_cons_succ]
                refine wpAnyH_done (by kernel_rfl) ?_ _
                refine NoPanic.normal ?_
                clear hIsT
                go_wp2
                exact ⟨⟨i + 1, by omega, by go_num, lw_stay HS.out HQ6.out.2.2 HQ6.out.1 HI.out HLEN.out HE0.out HQ6.out.2.1 hf7⟩, by simp [intOf]; omega⟩
    · -- the end
      have h28 := stand_28 hQ.gw (hI.ok HLEN.out) hQ.row
      have hwk := fun W => wakes_any W
      have HG : Hid (w.grownBy wr none) := hgr
      clear hO hL hQ hI hin htg ht4 hT3 hgr hcel hsE
      by_cases h1 : i < n
      · have hj2 : i = 250 := by omega
        subst hj2
        have hd1 : decide (((250 : Nat) : Int) < n) = true := decide_eq_true (by omega)
        have hl1 : (250 : Int) < n := by omega
        go_wp2_with (first | (go_at_call 28; go_must (refine h28.mono ?_); rintro y w4 ⟨rfl, hf4⟩) | (go_at_call 17; go_must (refine (hwk _).mono ?_); rintro y w5 ⟨rfl, hf5⟩) | fail)
        go_ret
        exact ⟨rfl, gb_trans HG.out (gb_trans hf4 hf5)⟩
      · have hd1 : decide ((i : Int) < n) = false := decide_eq_false (by omega)
        have hl1 : ¬ (i : Int) < n := by omega
        go_wp2_with (first | (go_at_call 28; go_must (refine h28.mono ?_); rintro y w4 ⟨rfl, hf4⟩) | (go_at_call 17; go_must (refine (hwk _).mono ?_); rintro y w5 ⟨rfl, hf5⟩) | fail)
        go_ret
        exact ⟨rfl, gb_trans HG.out (gb_trans hf4 hf5)⟩
end Go.Proofs.YtjkdflnnpdionaaGreat
