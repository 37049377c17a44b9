/-
  HashPoints' walk.
-/
import Derived.Test.YtcbogbohafmnhaaV
import Derived.Deep.Cut
import Derived.Deep.CutRange
namespace Go.Proofs.Ytcbogbohafmnhaa
open Go.RowKit
set_option linter.unusedVariables false

set_option maxRecDepth 100000 in
set_option maxHeartbeats 8000000 in
theorem points_any (a : Option Addr) (n c : Nat) (w : World) (hn : n ≤ 5864062014805) (hin : NaIn w a n) : Calls Try.prog 5 #[.slice a n c] w fun e w' => e = .returned (.bool true) ∧ w.grownBy w' none := by
  go_enter Try.func5, Try.ntmps5
  go_upto_region 1 with fail
  go_cut [3, 4] from 22 to 22 (fun x y wc => x = .slice none 0 0 ∧ y = .slice none 0 0 ∧ w = wc)
  case first =>
    go_wp2
    go_meet
    exact ⟨rfl, rfl, rfl⟩
  obtain ⟨rfl, rfl, rfl⟩ := hcut
  go_step
  go_step
  go_cut [3, 4] from 22 to 73 (fun vA vW wc => ∃ T : List Tr, T.length ≤ 40 ∧ P1 w.heap.size wc vA vW T ∧ w.grownBy wc none)
  case first =>
    go_wp2
    go_loopw [3, 4, 5] (fun vA vW x wr => ∃ (k : Nat) (T : List Tr), k ≤ 40 ∧ T.length = k ∧ x = .int .i64 k ∧ P1 w.heap.size wr vA vW T ∧ w.grownBy wr none) (fun _ _ x _ => 40 - (intOf x).toNat)
    case atStart => exact ⟨0, [], by omega, rfl, rfl, P1.nil _ _, gb_refl _ _⟩
    case round =>
      obtain ⟨k, T, hk, hT, rfl, hP, hF⟩ := hrel
      have HT : Hid (T.length = k) := hT
      have hTk : T.length ≤ 1000 := by omega
      clear hT
      by_cases hlt : k < 2 * n ∧ k < 40
      · obtain ⟨hl1, hl2⟩ := hlt
        obtain ⟨b, o, rfl, s, x, y0, y1, hs⟩ := hin (k % n) (Nat.mod_lt _ (by omega))
        obtain ⟨m, us, ec, hum, hm5, pp, rp⟩ := both_points s x hs
        subst hum
        have hrem : (k : Int).tmod n = ((k % n : Nat) : Int) := by rw [Int.tmod_eq_emod_of_nonneg (by omega)]; rfl
        have hrm2 : (k : Int) % n = ((k % n : Nat) : Int) := rfl
        have hil := Nat.mod_lt k (show 0 < n by omega)
        have z0 := gb_cellN hF y0
        have z1 := gb_cellN hF y1
        generalize k % n = ix at *
        have hd1 : decide ((k : Int) < 2 * n) = true := by simp; omega
        have hd2 : decide ((k : Int) < 40) = true := by simp; omega
        have hd3 : decide (ix < n) = true := by simp; omega
        have hw2 : IntKind.i64.wrap (2 * (n : Int)) = 2 * n := by rw [IntKind.wrap_i64]; omega
        clear hin y0 y1
        have bx := Box.new wr 40 #[.string s, .int .i64 x]
        have cx0 := bx.cell 0
        have cx1 := bx.cell 1
        rw [show (#[Value.string s, .int .i64 x] : Array Value)[0]? = some (.string s) from rfl] at cx0
        rw [show (#[Value.string s, .int .i64 x] : Array Value)[1]? = some (.int .i64 x) from rfl] at cx1
        have hP1 := hP.kept (World.grownBy_alloc wr (.cells #[.string s, .int .i64 x] 40) none)
        have hF1 := gb_alloc hF (.cells #[.string s, .int .i64 x] 40)
        have hsz1 : wr.heap.size < (wr.alloc (.cells #[.string s, .int .i64 x] 40)).heap.size := by simp
        have HLT : Hid (∀ t ∈ T, t.1.1 < wr.heap.size) := fun t ht => (hP.el t ht).lt
        clear bx hP
        go_wp2_with fail
        generalize wr.alloc (.cells #[.string s, .int .i64 x] 40) = w1 at *
        refine (pp _).mono ?_
        rintro e w2 ⟨g, rfl, hg, hgl, hbx, hf2⟩
        have cx0 := gb_cellN hf2 cx0
        have cx1 := gb_cellN hf2 cx1
        simp only [ev]
        go_wp2_with fail
        refine (rp _).mono ?_
        rintro e w3 ⟨v, rfl, hov, hf3⟩
        obtain ⟨ad2, c2, rfl, hu2, _, hc2, _⟩ := hov.has
        have hf13 := gb_trans hf2 hf3
        have hP3 := hP1.kept hf13
        have hF3 := gb_trans hF1 hf13
        have hbx3 : 0 < us.length → Box w3 34 g (uvals us).toArray := fun h => (hbx h).kept hf3 (by simp)
        have hu1 := ev_has (e := (g, us.length)) rfl hbx3
        have hsm := same_23 hu1 hu2 us.length c2 (by unfold maxLen; omega)
        have hel : El w.heap.size w3 ((g, us.length), .slice ad2 us.length c2, us) := by
          have h1 := hF1.size
          have h2 := hf2.size
          have h3 := hf3.size
          have h4 := hgl (by omega)
          have h5 := hF.size
          refine ⟨rfl, hbx3, row_base hov (by omega), ?_, ?_, hm5⟩
          · show w.heap.size ≤ g
            omega
          · show g < w3.heap.size
            omega
        have HI : Hid (∀ t ∈ T, t.1.1 < g) := fun t ht => by have := HLT.out t ht; omega
        clear cx0 cx1 hu1 hu2 hov pp rp hbx hbx3
        go_wp2_with (first | (go_at_call 22; go_must (refine (num_22 _ _).mono ?_); rintro e w3 ⟨rfl, rfl⟩) | (go_at_call 23; go_must (with_reducible refine hsm.mono ?_); rintro e w4 ⟨rfl, q4, rfl⟩) | (at_builtin; go_must (refine push41 rfl _ _ rfl w.heap.size _ T.length (T.map fun t => ev t.1) (by rfl) ((hP3.kept (gb_drewN (gb_refl w3 none) q4)).rA) (ev (g, us.length)) (ev_one _) (by rfl) hTk (by have := hF3.size; simpa using this) ?_)) | fail)
        intro vA' w5 a1 a2 a3
        have hP4 := hP3.kept (gb_drewN (gb_refl w3 none) q4)
        have hel4 := hel.kept (gb_drewN (gb_refl w3 none) q4) (by simp)
        have hF4 := gb_drewN hF3 q4
        clear hP3 hel hF3 hsm
        have a3 : _ ∨ ∀ k, vA'.ownBlock = some k → (w3.drewN q4).heap.size ≤ k := a3
        generalize w3.drewN q4 = w4 at *
        have hF5 := gb_far hF4 a2 (fun k e => (World.ownsRow.lt hP4.rA k e).1) (Nat.le_refl _)
        have hrw := hP4.rW1 a2
        go_wp2_with (first | (at_builtin; go_must (refine push41 rfl _ _ rfl w.heap.size _ T.length (T.map fun t => t.2.1) (by rfl) hrw (.slice ad2 us.length c2) (by simp [Value.oneCell']) (by rfl) hTk hF5.size ?_)) | fail)
        intro vW' w6 b1 b2 b3
        have hF6 := gb_far hF5 b2 (fun k e => (World.ownsRow.lt hrw k e).1) (Nat.le_refl _)
        have HP6 : Hid _ := hP4.push _ hel4 HI.out a1 a2 a3 b1 b2 b3
        clear hP4 hel4 hrw a1 b1
        go_wp2
        go_roundw
        case rel => exact ⟨k + 1, T ++ [_], by omega, by simp [HT.out], by go_num, HP6.out, hF6⟩
        case measure => simp [intOf]; omega
      · by_cases hkn : k < 2 * n
        · have hd2 : decide ((k : Int) < 40) = false := by simp; omega
          have hd1 : decide ((k : Int) < 2 * n) = true := by simp; omega
          have hw2 : IntKind.i64.wrap (2 * (n : Int)) = 2 * n := by rw [IntKind.wrap_i64]; omega
          clear hlt hin
          go_wp2
          go_meet
          exact ⟨T, by have := HT.out; omega, hP, hF⟩
        · have hd1 : decide ((k : Int) < 2 * n) = false := by simp; omega
          have hw2 : IntKind.i64.wrap (2 * (n : Int)) = 2 * n := by rw [IntKind.wrap_i64]; omega
          clear hlt hin
          go_wp2
          go_meet
          exact ⟨T, by have := HT.out; omega, hP, hF⟩
  clear hin
  obtain ⟨T, hTl, hP, hF⟩ := hcut
  obtain ⟨aA, cA, rfl, nA, lA, mA, sA⟩ := row_shape hP.rA
  obtain ⟨aW, cW, rfl, nW, lW, mW, sW⟩ := row_shape hP.rW
  go_step
  go_step
  go_cut [3] from 74 to 89 (fun vA wc => ∃ es : List (Nat × Nat), es.length ≤ 40 ∧ P3 w.heap.size wc vA es 0 ∧ w.grownBy wc none)
  case first =>
    go_wp2
    go_loopw [11] (fun x wr => ∃ (k : Nat), k ≤ T.length ∧ x = .int .i64 k ∧ ∃ q, wr = wc.drewN q) (fun x _ => T.length - (intOf x).toNat)
    case atStart => exact ⟨0, by omega, rfl, 0, rfl⟩
    case round =>
      obtain ⟨k, hk, rfl, q, rfl⟩ := hrel
      by_cases hlt : k < T.length
      · obtain ⟨t, hgt⟩ : ∃ t, T[k]? = some t := ⟨_, List.getElem?_eq_getElem hlt⟩
        have hel := hP.el t (List.mem_of_getElem? hgt)
        have hA := hP.rA
        have hW := hP.rW
        obtain ⟨gA, rfl⟩ := sA (by omega)
        obtain ⟨gW, rfl⟩ := sW (by omega)
        have k1 : (wc.drewN q).cell? ⟨gA, k, none⟩ = some (ev t.1) := row_cell hA k _ (by rw [List.getElem?_map, hgt]; rfl)
        have k2 : (wc.drewN q).cell? ⟨gW, k, none⟩ = some t.2.1 := row_cell hW k _ (by rw [List.getElem?_map, hgt]; rfl)
        obtain ⟨ad2, c2, hv2, hu2, _, hc2, _⟩ := hel.own.has
        have hu1 := ev_has hel.len hel.box
        rw [hv2] at k2
        rw [hel.len] at k2 hu2
        have hq := fun q => same_23 (w := wc.drewN q) (show HasU (wc.drewN q) _ _ _ from hu1) (show HasU (wc.drewN q) _ _ _ from hu2) t.1.2 c2 (by have := hel.le; unfold maxLen; omega)
        unfold ev at k1
        have hle := hel.le
        clear hel hA hW hP hu1 hu2 hv2 hgt
        have HE : Hid (∀ m, ∃ q', (wc.drewN q).drewN m = wc.drewN q') := fun m => ⟨q + m, by simp⟩
        have hq2 := fun m => hq (q + m)
        have hq3 : ∀ m, Calls Try.prog 23 #[.slice (eva t.1) t.1.2 t.1.2, .slice ad2 t.1.2 c2] ((wc.drewN q).drewN m) fun e w' => e = .returned (.bool true) ∧ ∃ q', w' = ((wc.drewN q).drewN m).drewN q' := fun m => by
          have := hq (q + m)
          simpa using this
        clear hq hq2
        generalize eva t.1 = ea at *
        generalize t.1.2 = en at *
        generalize wc.drewN q = V at *
        have hd1 : decide ((k : Int) < T.length) = true := by simp; omega
        have hd3 : decide (k < T.length) = true := by simp; omega
        generalize T.length = N at *
        go_wp2
        go_quiet ((go_at_call 23; with_reducible exact Calls.quiet_of (hq3 _)))
        go_wp2
        go_roundw
        case rel => exact ⟨k + 1, by omega, by go_num, HE.out _⟩
        case measure => simp [intOf]; omega
      · have hd1 : decide ((k : Int) < T.length) = false := by simp; omega
        have HP3 : Hid _ := (hP.kept (gb_drewN (gb_refl wc none) q)).p3
        have HF : Hid _ := gb_drewN hF q
        have HTL : Hid ((T.map (·.1)).length ≤ 40) := by rw [List.length_map]; exact hTl
        clear hP
        generalize hN : T.length = N at *
        clear hN
        go_wp2
        go_meet
        exact ⟨T.map (·.1), HTL.out, HP3.out, HF.out⟩
  clear hP hF sA sW nA nW lA lW mA mW
  obtain ⟨es, hel, hP, hF⟩ := hcut
  obtain ⟨aA, cA, rfl, nA, lA, mA, sA⟩ := row_shape hP.rA
  go_step
  go_step
  go_cut [3] from 90 to 113 (fun vA wc => ∃ es : List (Nat × Nat), es.length ≤ 40 ∧ P3 w.heap.size wc vA es es.length ∧ w.grownBy wc none)
  case first =>
    go_wp2
    go_loopw [12, 13] (fun x _ wr => ∃ (i : Nat), i ≤ es.length ∧ x = .int .i64 i ∧ P3 w.heap.size wr (.slice aA es.length cA) es i ∧ w.grownBy wr none) (fun x _ _ => es.length - (intOf x).toNat)
    case atStart => exact ⟨0, by omega, rfl, hP, hF⟩
    case round =>
      clear hP hF
      obtain ⟨i, hi, rfl, hP, hF⟩ := hrel
      by_cases hlt : i < es.length
      · obtain ⟨e, he⟩ : ∃ e, es[i]? = some e := ⟨_, List.getElem?_eq_getElem hlt⟩
        obtain ⟨gA, rfl⟩ := sA (by omega)
        have hle := hP.le e (List.mem_of_getElem? he)
        have HGE : Hid (w.heap.size ≤ e.1) := hP.ge e (List.mem_of_getElem? he)
        have HE : Hid (es[i]? = some e) := he
        have HR : Hid (0 < e.2 → ∃ cs : Array Value, cs.size = e.2 ∧ (∀ l, l < 0 → cs[l]? = some (.int .u32 ((1000 + i : Nat) : Int))) ∧ Box wr 34 e.1 cs) := fun h0 => by
          obtain ⟨cs, h1, h2⟩ := hP.todo i e he h0 (Nat.le_refl _)
          exact ⟨cs, h1, fun l hl => by omega, h2⟩
        have HPP : Hid _ := hP
        have hd1 : decide ((i : Int) < es.length) = true := by simp; omega
        have hd3 : decide (i < es.length) = true := by simp; omega
        obtain ⟨u, hu⟩ : ∃ u : Nat, u = 1000 + i := ⟨_, rfl⟩
        have HU : Hid (u = 1000 + i) := hu
        have hu1 : 1000 + (i : Int) = (u : Int) := by omega
        have hu2 : u < 4294967296 := by omega
        rw [← hu] at HR
        clear he hP hu
        have hel2 : es.length ≤ 40 := hel
        go_wp2
        go_loopw [13] (fun x wq => ∃ (k : Nat), k ≤ e.2 ∧ x = .int .i64 k ∧ P3 w.heap.size wq (.slice (some ⟨gA, 0, none⟩) es.length cA) es i ∧ (0 < e.2 → ∃ cs : Array Value, cs.size = e.2 ∧ (∀ l, l < k → cs[l]? = some (.int .u32 (u : Int))) ∧ Box wq 34 e.1 cs) ∧ w.grownBy wq none) (fun x _ => e.2 - (intOf x).toNat)
        case atStart => exact ⟨0, by omega, rfl, HPP.out, HR.out, hF⟩
        case round =>
          clear HPP HR hF
          obtain ⟨k, hk, rfl, hP, hR, hF⟩ := hrel
          have k1 := row_cell hP.rA i (ev e) (by rw [List.getElem?_map, HE.out]; rfl)
          unfold ev at k1
          by_cases hlk : k < e.2
          · obtain ⟨cs, hcs, hfull, hbx⟩ := hR (by omega)
            rw [eva_some (by omega)] at k1
            have hfz := hbx.fz k
            have hcl := hbx.cell k
            obtain ⟨old, hold⟩ : ∃ old, cs[k]? = some old := ⟨_, Array.getElem?_eq_getElem (by omega)⟩
            rw [hold] at hcl
            have HP2 : Hid _ := hP.set HE.out (by omega) k (.int .u32 (u : Int))
            have HR2 : Hid (0 < e.2 → ∃ cs' : Array Value, cs'.size = e.2 ∧ (∀ l, l < k + 1 → cs'[l]? = some (.int .u32 (u : Int))) ∧ Box (wr.setCell ⟨e.1, k, none⟩ (.int .u32 (u : Int))) 34 e.1 cs') := fun _ => ⟨cs.setIfInBounds k (.int .u32 (u : Int)), by rw [Array.size_setIfInBounds]; exact hcs, fun l hl => by
              by_cases hlk2 : l = k
              · subst hlk2
                rw [Array.getElem?_setIfInBounds_self_of_lt (by omega)]
              · rw [Array.getElem?_setIfInBounds_ne (by omega)]
                exact hfull l (by omega), hbx.set k _⟩
            have HF2 : Hid _ := gb_far hF (gb_setCell (gb_refl wr (some e.1)) (i := k) (.int .u32 (u : Int))) (B := w.heap.size) (fun i' e' => by cases e'; exact HGE.out) (Nat.le_refl _)
            have hdk : decide ((k : Int) < e.2) = true := by simp; omega
            have hdk3 : decide (k < e.2) = true := by simp; omega
            clear hP hR hbx hold hfull
            go_wp2
            go_roundw
            case rel => exact ⟨k + 1, by omega, by go_num, HP2.out, HR2.out, HF2.out⟩
            case measure => simp [intOf]; omega
          · have hke : k = e.2 := by omega
            have HP2 : Hid _ := hP.next HE.out (fun h0 => by
              obtain ⟨cs, h1, h2, h3⟩ := hR h0
              exact ⟨cs, h1, fun l hl => by rw [h2 l (by omega), HU.out], h3⟩)
            have hdk : decide ((k : Int) < e.2) = false := by simp; omega
            clear hP hR hke
            go_wp2
            go_roundw
            case rel => exact ⟨i + 1, by omega, by go_num, HP2.out, hF⟩
            case measure => simp [intOf]; omega
      · have hie : i = es.length := by omega
        have HP2 : Hid (P3 w.heap.size wr (.slice aA es.length cA) es es.length) := by rw [← hie]; rw [← hie] at hP; exact hP
        have hd1 : decide ((i : Int) < es.length) = false := by simp; omega
        clear hP hie
        go_wp2
        go_meet
        exact ⟨es, hel, HP2.out, hF⟩
  clear hP hF sA nA lA mA
  obtain ⟨es, hel, hP, hF⟩ := hcut
  obtain ⟨aA, cA, rfl, nA, lA, mA, sA⟩ := row_shape hP.rA
  go_upto_region 24 with fail
  go_cut [14] from 114 to 114 (fun x wd => x = .slice none 0 0 ∧ wc = wd)
  case first =>
    go_wp2
    go_meet
    exact ⟨rfl, rfl⟩
  obtain ⟨rfl, rfl⟩ := hcut
  go_step
  go_step
  go_cut [14] from 114 to 137 (fun vG wd => P5 wc.heap.size wd vG es es.length ∧ wc.grownBy wd none)
  case first =>
    go_wp2
    go_loopw [14, 15, 16, 17] (fun vG x _ _ wr => ∃ (i : Nat), i ≤ es.length ∧ x = .int .i64 i ∧ P5 wc.heap.size wr vG es i ∧ wc.grownBy wr none) (fun _ x _ _ _ => es.length - (intOf x).toNat)
    case atStart => exact ⟨0, by omega, rfl, P5.nil _ _ _, gb_refl _ _⟩
    case round =>
      obtain ⟨i, hi, rfl, h5, hg⟩ := hrel
      by_cases hlt : i < es.length
      · obtain ⟨e, he⟩ : ∃ e, es[i]? = some e := ⟨_, List.getElem?_eq_getElem hlt⟩
        obtain ⟨gA, rfl⟩ := sA (by omega)
        have hPr := hP.kept hg
        have hle := hP.le e (List.mem_of_getElem? he)
        have k1 := row_cell hPr.rA i (ev e) (by rw [List.getElem?_map, he]; rfl)
        have HBX : Hid (0 < e.2 → Box wr 34 e.1 (uvals (List.replicate e.2 (1000 + i))).toArray) := fun h0 => hPr.done i e he h0 hlt
        have HE : Hid (es[i]? = some e) := he
        have hd1 : decide ((i : Int) < es.length) = true := by simp; omega
        have hd3 : decide (i < es.length) = true := by simp; omega
        obtain ⟨u, hu⟩ : ∃ u : Nat, u = 7000 + i := ⟨_, rfl⟩
        have HU : Hid (u = 7000 + i) := hu
        have hu1 : 7000 + (i : Int) = (u : Int) := by omega
        have hu2 : u < 4294967296 := by omega
        have H5 : Hid _ := h5
        have HH : Hid (wc.heap.size ≤ wr.heap.size) := hg.size
        clear he hPr hu h5
        generalize hrs : List.replicate e.2 (1000 + i) = rs at *
        have HRS : Hid (List.replicate e.2 (1000 + i) = rs) := hrs
        have hrl : rs.length = e.2 := by rw [← hrs]; simp
        clear hrs
        obtain ⟨ws, hws⟩ : ∃ ws, ws = wr := ⟨_, rfl⟩
        subst hws
        go_wp2
        go_loopw [16, 17] (fun v x wq => ∃ (k : Nat), k ≤ 600 ∧ x = .int .i64 k ∧ ws.grownBy wq none ∧ ((k = 0 ∧ v = ev e) ∨ (0 < k ∧ OwnU ws.heap.size wq v (rs ++ List.replicate k u)))) (fun _ x _ => 600 - (intOf x).toNat)
        case atStart => exact ⟨0, by omega, rfl, gb_refl _ _, .inl ⟨rfl, rfl⟩⟩
        case round =>
          obtain ⟨k, hk, rfl, hgq, hor⟩ := hrel
          by_cases hlk : k < 600
          · have hdk : decide ((k : Int) < 600) = true := by simp; omega
            rcases hor with ⟨rfl, rfl⟩ | ⟨hk0, hown⟩
            · rcases Nat.eq_zero_or_pos e.2 with he0 | he0
              · have hev : ev e = .slice none 0 0 := by unfold ev; rw [he0]; simp [eva, he0]
                have hrn : rs = [] := List.eq_nil_of_length_eq_zero (by omega)
                rw [hev]
                go_wp2_with (first | (at_builtin; go_must (refine push34 rfl _ _ rfl ws.heap.size _ [] (by rfl) (World.ownsRow_nil wr ws.heap.size 34 1) u (by rfl) (by simp) hgq.size ?_)) | fail)
                intro v' w' hown' hgr
                have hg3 := gb_far hgq hgr (fun k e => by cases e) (Nat.le_refl _)
                have HO : Hid (OwnU ws.heap.size w' v' (rs ++ List.replicate (0 + 1) u)) := by rw [hrn]; exact hown'
                clear hown'
                go_wp2
                go_roundw
                case rel => exact ⟨0 + 1, by omega, by go_num, hg3, .inr ⟨by omega, HO.out⟩⟩
                case measure => simp [intOf]
              · have hev : ev e = .slice (some ⟨e.1, 0, none⟩) e.2 e.2 := by unfold ev; rw [eva_some he0]
                rw [hev]
                have hbx := (HBX.out he0).kept hgq (by simp)
                go_wp2_with (first | (at_builtin; go_must (refine push34_full rfl _ _ rfl e.1 e.2 rs (by rfl) hrl hbx u (by rfl) (by omega) ?_)) | fail)
                intro v' w' hown' hgr
                have hg3 := gb_trans hgq hgr
                have HO : Hid (OwnU ws.heap.size w' v' (rs ++ List.replicate (0 + 1) u)) := row_base hown' hgq.size
                clear hown'
                go_wp2
                go_roundw
                case rel => exact ⟨0 + 1, by omega, by go_num, hg3, .inr ⟨by omega, HO.out⟩⟩
                case measure => simp [intOf]
            · have hll : (rs ++ List.replicate k u).length ≤ 2000 := by simp; omega
              go_wp2_with (first | (at_builtin; go_must (refine push34 rfl _ _ rfl ws.heap.size _ (rs ++ List.replicate k u) (by rfl) hown u (by rfl) (by omega) hgq.size ?_)) | fail)
              intro v' w' hown' hgr
              have hg3 := gb_far hgq hgr (fun k e => (hown.lt k e).1) (Nat.le_refl _)
              have HO : Hid (OwnU ws.heap.size w' v' (rs ++ List.replicate (k + 1) u)) := by
                show OwnU ws.heap.size w' v' (rs ++ List.replicate (k + 1) u)
                rw [List.replicate_succ']
                exact hown'
              clear hown' hown
              go_wp2
              go_roundw
              case rel => exact ⟨k + 1, by omega, by go_num, hg3, .inr ⟨by omega, HO.out⟩⟩
              case measure => simp [intOf]; omega
          · obtain rfl : k = 600 := by omega
            have hdk : decide (((600 : Nat) : Int) < 600) = false := by decide
            have hown : OwnU ws.heap.size wr u16 (rs ++ List.replicate 600 u) := by
              rcases hor with ⟨h, _⟩ | ⟨_, h⟩
              · omega
              · exact h
            obtain ⟨ad, cd, hvd, _⟩ := hown.has
            obtain ⟨gs, q1, q2, q3⟩ := P5.kept (show P5 wc.heap.size ws u14 es i from H5.out) hgq
            have hown2 : OwnU wc.heap.size wr u16 (List.replicate e.2 (1000 + i) ++ List.replicate 600 (7000 + i)) := by
              rw [HRS.out, ← HU.out]
              exact row_base hown HH.out
            rw [hvd] at hown2 ⊢
            have hgw := gb_trans hg hgq
            generalize hLL : (rs ++ List.replicate 600 u).length = LL at *
            clear hLL hor hvd hown
            go_wp2_with (first | (at_builtin; go_must (refine push41 rfl _ _ rfl wc.heap.size _ i gs (by rfl) q2 (.slice ad LL cd) (by simp [Value.oneCell']) (by rfl) (by omega) hgw.size ?_)) | fail)
            intro vG' w6 b1 b2 b3
            have HP5 : Hid _ := P5.push q1 q2 q3 HE.out hown2 b1 b2
            have HG6 : Hid _ := gb_far hgw b2 (fun k e => (World.ownsRow.lt q2 k e).1) (Nat.le_refl _)
            clear q1 q2 q3 hown2 b1 b3
            go_wp2
            go_roundw
            case rel => exact ⟨i + 1, by omega, by go_num, HP5.out, HG6.out⟩
            case measure => simp [intOf]; omega
      · have hie : i = es.length := by omega
        have HP5 : Hid _ := h5
        rw [hie] at HP5
        have hd1 : decide ((i : Int) < es.length) = false := by simp; omega
        clear h5 hie
        go_wp2
        go_meet
        exact ⟨HP5.out, hg⟩
  obtain ⟨h5, hg5⟩ := hcut
  have hP := hP.kept hg5
  have hF := gb_trans hF hg5
  obtain ⟨gs, q1, q2, q3⟩ := h5
  obtain ⟨aG, cG, rfl, nG, lG, mG, sG⟩ := row_shape q2
  clear hg5
  go_step
  go_step
  go_cut [] from 138 to 207 (fun wd => wc = wd)
  case first =>
    go_wp2
    go_loopw [18, 19] (fun x _ wr => ∃ (i : Nat), i ≤ es.length ∧ x = .int .i64 i ∧ wc = wr) (fun x _ _ => es.length - (intOf x).toNat)
    case atStart => exact ⟨0, by omega, rfl, rfl⟩
    case round =>
      obtain ⟨i, hi, rfl, rfl⟩ := hrel
      by_cases hlt : i < es.length
      · obtain ⟨e, he⟩ : ∃ e, es[i]? = some e := ⟨_, List.getElem?_eq_getElem hlt⟩
        obtain ⟨gA, rfl⟩ := sA (by omega)
        obtain ⟨gG, rfl⟩ := sG (by omega)
        have hle := hP.le e (List.mem_of_getElem? he)
        have k1 := row_cell hP.rA i (ev e) (by rw [List.getElem?_map, he]; rfl)
        obtain ⟨v, hv, hov⟩ := q3 i e hlt he
        have k2 := row_cell q2 i v hv
        obtain ⟨a2, c2, rfl, hu, hc, hcm, _⟩ := hov.has
        obtain ⟨L, hLe⟩ : ∃ L, L = e.2 + 600 := ⟨_, rfl⟩
        have hL : (List.replicate e.2 (1000 + i) ++ List.replicate 600 (7000 + i)).length = L := by simp [hLe]
        rw [hL] at k2 hu
        obtain ⟨b2, o2, rfl, hcells⟩ := hu.2 (by omega)
        have HC1 : Hid (∀ k, k < e.2 → wc.cell? ⟨b2, o2 + k, none⟩ = some (.int .u32 ((1000 + i : Nat) : Int))) := fun k hk => by
          rw [hcells k (by omega), two_lo _ _ _ _ _ hk]
        have HC2 : Hid (∀ k, e.2 ≤ k → k < e.2 + 600 → wc.cell? ⟨b2, o2 + k, none⟩ = some (.int .u32 ((7000 + i : Nat) : Int))) := fun k hk hk2 => by
          rw [hcells k (by omega), two_hi _ _ _ _ _ hk hk2]
        have HC3 : Hid (∀ k, k < e.2 → wc.cell? ⟨e.1, k, none⟩ = some (.int .u32 ((1000 + i : Nat) : Int))) := fun k hk => by
          rw [(hP.done i e he (by omega) hlt).cell k, uvals_get _ _ (by rw [List.length_replicate]; exact hk)]
          simp [List.getD, hk]
        unfold ev at k1
        have hd1 : decide ((i : Int) < es.length) = true := by simp; omega
        have hd3 : decide (i < es.length) = true := by simp; omega
        obtain ⟨u1, hu1⟩ : ∃ u : Nat, u = 1000 + i := ⟨_, rfl⟩
        obtain ⟨u2, hu2⟩ : ∃ u : Nat, u = 7000 + i := ⟨_, rfl⟩
        rw [← hu1] at HC1 HC3
        rw [← hu2] at HC2
        have hv1 : 1000 + (i : Int) = (u1 : Int) := by omega
        have hv2 : 7000 + (i : Int) = (u2 : Int) := by omega
        have hb1 : u1 < 4294967296 := by omega
        have hb2 : u2 < 4294967296 := by omega
        have HLE : Hid (L = e.2 + 600) := hLe
        have hLb : L ≤ 2000 := by omega
        clear he hv hov hu hcells hL hu1 hu2 hLe hcm hc hP q2 q3
        go_wp2
        go_loopw [19] (fun x wq => ∃ (k : Nat), k ≤ L ∧ x = .int .i64 k ∧ wc = wq) (fun x _ => L - (intOf x).toNat)
        case atStart => exact ⟨0, by omega, rfl, rfl⟩
        case round =>
          obtain ⟨k, hk, rfl, rfl⟩ := hrel
          by_cases hlk : k < L
          · have hdl : decide ((k : Int) < L) = true := by simp; omega
            have hdl3 : decide (k < L) = true := by simp; omega
            by_cases hke : k < e.2
            · have y1 := HC1.out k hke
              have y3 := HC3.out k hke
              rw [eva_some (by omega)] at k1
              have hdk : decide ((k : Int) < e.2) = true := by simp; omega
              have hdk3 : decide (k < e.2) = true := by simp; omega
              have hdk4 : decide ((e.2 : Int) ≤ k) = false := by simp; omega
              go_wp2
              go_roundw
              case rel => exact ⟨k + 1, by omega, by go_num, by first | rfl | trivial⟩
              case measure => simp [intOf]; omega
            · have y2 := HC2.out k (by omega) (by have := HLE.out; omega)
              have hdk : decide ((k : Int) < e.2) = false := by simp; omega
              have hdk4 : decide ((e.2 : Int) ≤ k) = true := by simp; omega
              go_wp2
              go_roundw
              case rel => exact ⟨k + 1, by omega, by go_num, by first | rfl | trivial⟩
              case measure => simp [intOf]; omega
          · have hdl : decide ((k : Int) < L) = false := by simp; omega
            go_wp2
            go_roundw
            case rel => exact ⟨i + 1, by omega, by go_num, by first | rfl | trivial⟩
            case measure => simp [intOf]; omega
      · have hd1 : decide ((i : Int) < es.length) = false := by simp; omega
        clear hP q2 q3
        go_wp2
        go_meet
        exact rfl
  clear hP q1 q2 q3
  obtain rfl := hcut
  have cp := points_20x [115] 2 (by intro z hz; simp at hz; omega) (by decide) (by decide) (by decide) (by decide) wc
  rw [show strOfNums [115] = ⟨#[115]⟩ from rfl] at cp
  simp only [Int.cast_ofNat_Int] at cp
  go_wp2_with fail
  refine cp.mono ?_
  rintro e w2 ⟨g, rfl, hg, hbx, hf⟩
  have hsum : ptN [115] 1 = point (sumB [115, 45, 49]) := by
    have h1 := sumB_name [115] 1
    rw [dig_lt 1 (by omega)] at h1
    unfold ptN
    rw [dig_lt 1 (by omega), ← h1]
    rfl
  have hc1 := hbx.cell 1
  rw [uvals_get _ 1 (by rw [pts_len]; omega)] at hc1
  have hpg : (pts [115] 2).getD 1 0 = ptN [115] 1 := pts_at _ _ _ (by omega)
  rw [hpg, hsum] at hc1
  have HFE : Hid (w.grownBy w2 none) := gb_trans hF hf
  have hpt := point_18 (sumB [115, 45, 49]) (sumB_lt _)
  have hpl := point_lt (sumB [115, 45, 49])
  have hsl := sumB_lt [115, 45, 49]
  have hs3 := sum_11 (show Has (w2.alloc (.cells (vals [115, 45, 49]) 5 (3, 4))).drew (some ⟨w2.heap.size, 0, none⟩) 3 [115, 45, 49] from has_lit w2 [115, 45, 49] (3, 4)) (by intro z hz; simp at hz; omega) 3 (by decide)
  rw [show vals [115, 45, 49] = #[.int .u8 115, .int .u8 45, .int .u8 49] from rfl] at hs3
  generalize point (sumB [115, 45, 49]) = pt at *
  generalize sumB [115, 45, 49] = sm at *
  have hcv : (convert 23 23 (.slice (some ⟨w2.heap.size, 0, none⟩) 3 3)).run Try.prog (w2.alloc (.cells #[.int .u8 115, .int .u8 45, .int .u8 49] 5)).drew = .ok (.slice (some ⟨w2.heap.size, 0, none⟩) 3 3) (w2.alloc (.cells #[.int .u8 115, .int .u8 45, .int .u8 49] 5 (3, 4))).drew := Lib.run_convert_bytes_const (P := Try.prog) w2.drew 23 5 #[.int .u8 115, .int .u8 45, .int .u8 49] 3 3 Try.underlying23 Try.underlying5
  have d0 : w2.drew.cell? ⟨g, 1, none⟩ = some (.int .u32 (pt : Int)) := hc1
  have d1 : (w2.alloc (.cells #[.int .u8 115, .int .u8 45, .int .u8 49] 5)).drew.cell? ⟨g, 1, none⟩ = some (.int .u32 (pt : Int)) := gb_cellN (World.grownBy_alloc w2 _ none) hc1
  have d2 : (w2.alloc (.cells #[.int .u8 115, .int .u8 45, .int .u8 49] 5 (3, 4))).drew.cell? ⟨g, 1, none⟩ = some (.int .u32 (pt : Int)) := gb_cellN (World.grownBy_alloc w2 _ none) hc1
  have HFE2 : Hid (w.grownBy (w2.alloc (.cells #[.int .u8 115, .int .u8 45, .int .u8 49] 5 (3, 4))).drew none) := gb_drew (gb_alloc HFE.out _)
  clear cp hbx hsum hpg hTl hel nA lA mA sA nG lG mG sG hn hF hf hg hc1
  go_wp2_with fail
  refine wp_region_noPanic ?_
  refine wp_region_held_drew (S := fun w' => w'.cell? ⟨g, 1, none⟩ = some (.int .u32 (pt : Int))) (by kernel_rfl) ?_ (fun hHeld0 => ?_)
  · exact d0
  refine wpAnyH_take (i := 0) (oi := { dst := some 212, op := Op.move (Operand.tmp 21), type := 42, pos := _, after := #[], guard := none }) (v := ?_) rfl (by kernel_rfl) (by kernel_rfl) (by kernel_rfl) (fun _ _ _ h => h) (Or.inl ⟨by rfl, ?_⟩) (by assumption) ?_
  rotate_left 1
  · (intro w hSw; (try dsimp only at hSw); go_simp; (try (with_reducible rfl)))
  try simp only [Act.put, List.setIfInBounds_toArray, List.set_cons_zero, List.set_cons_succ]
  refine wpAnyH_ready (rs := [1]) (by kernel_rfl) (by simp) ?_
  refine AllReadyH.cons rfl (fun K hK => ?_) AllReadyH.nil
  go_simp
  go_at_call 22
  refine (num_22 _ _).mono ?_
  rintro e w6 ⟨rfl, rfl⟩
  try simp only []
  refine hK.out _ _ ?_ (fun hHeld1 => ?_)
  · exact d0
  clear hK K hHeld0
  try simp only [Act.put, List.setIfInBounds_toArray, List.set_cons_zero, List.set_cons_succ]
  refine wpAnyH_take (i := 2) (oi := { dst := some 214, op := Op.binOp BinOp.eql 3 (Operand.tmp 213) (Operand.const (Value.int IntKind.i64 0)) 3, type := 4, pos := _, after := #[{ on := 1, ground := Ground.data }], guard := none }) (v := ?_) rfl (by kernel_rfl) (by kernel_rfl) (by kernel_rfl) (fun _ _ _ h => h) (Or.inl ⟨by rfl, ?_⟩) (by assumption) ?_
  rotate_left 1
  · (intro w hSw; (try dsimp only at hSw); go_simp; (try (with_reducible rfl)))
  try simp only [Act.put, List.setIfInBounds_toArray, List.set_cons_zero, List.set_cons_succ]
  refine wpAnyH_take (i := 3) (oi := { dst := some 215, op := Op.move (Operand.tmp 214), type := 4, pos := _, after := #[{ on := 2, ground := Ground.data }, { on := 1, ground := Ground.chain }], guard := none }) (v := ?_) rfl (by kernel_rfl) (by kernel_rfl) (by kernel_rfl) (fun _ _ _ h => h) (Or.inl ⟨by rfl, ?_⟩) (by assumption) ?_
  rotate_left 1
  · (intro w hSw; (try dsimp only at hSw); go_simp; (try (with_reducible rfl)))
  try simp only [Act.put, List.setIfInBounds_toArray, List.set_cons_zero, List.set_cons_succ]
  refine wpAnyH_take (i := 4) (oi := { dst := some 216, op := Op.move (Operand.tmp 20), type := 41, pos := _, after := #[{ on := 3, ground := Ground.guard }], guard := some (3, true) }) (v := ?_) rfl (by kernel_rfl) (by kernel_rfl) (by kernel_rfl) (fun _ _ _ h => h) (Or.inl ⟨by rfl, ?_⟩) (by assumption) ?_
  rotate_left 1
  · (intro w hSw; (try dsimp only at hSw); go_simp; (try (with_reducible rfl)))
  try simp only [Act.put, List.setIfInBounds_toArray, List.set_cons_zero, List.set_cons_succ]
  refine wpAnyH_take (i := 5) (oi := { dst := some 217, op := Op.call { callee := Callee.builtin Builtin.len, args := #[Operand.tmp 216], argTypes := #[41] }, type := 3, pos := _, after := #[{ on := 4, ground := Ground.data }, { on := 3, ground := Ground.guard }], guard := some (3, true) }) (v := ?_) rfl (by kernel_rfl) (by kernel_rfl) (by kernel_rfl) (fun _ _ _ h => h) (Or.inl ⟨by rfl, ?_⟩) (by assumption) ?_
  rotate_left 1
  · (intro w hSw; (try dsimp only at hSw); go_simp; (try (with_reducible rfl)))
  try simp only [Act.put, List.setIfInBounds_toArray, List.set_cons_zero, List.set_cons_succ]
  refine wpAnyH_take (i := 6) (oi := { dst := some 218, op := Op.binOp BinOp.eql 3 (Operand.tmp 217) (Operand.const (Value.int IntKind.i64 2)) 3, type := 4, pos := _, after := #[{ on := 5, ground := Ground.data }, { on := 3, ground := Ground.guard }], guard := some (3, true) }) (v := ?_) rfl (by kernel_rfl) (by kernel_rfl) (by kernel_rfl) (fun _ _ _ h => h) (Or.inl ⟨by rfl, ?_⟩) (by assumption) ?_
  rotate_left 1
  · (intro w hSw; (try dsimp only at hSw); go_simp; (try (with_reducible rfl)))
  try simp only [Act.put, List.setIfInBounds_toArray, List.set_cons_zero, List.set_cons_succ]
  refine wpAnyH_take (i := 7) (oi := { dst := some 219, op := Op.pick (Operand.tmp 215) (Operand.tmp 218) (Operand.const (Value.bool false)), type := 4, pos := _, after := #[{ on := 3, ground := Ground.data }, { on := 6, ground := Ground.data }], guard := none }) (v := ?_) rfl (by kernel_rfl) (by kernel_rfl) (by kernel_rfl) (fun _ _ _ h => h) (Or.inl ⟨by rfl, ?_⟩) (by assumption) ?_
  rotate_left 1
  · (intro w hSw; (try dsimp only at hSw); go_simp; (try (with_reducible rfl)))
  try simp only [Act.put, List.setIfInBounds_toArray, List.set_cons_zero, List.set_cons_succ]
  refine wpAnyH_take (i := 8) (oi := { dst := some 220, op := Op.move (Operand.tmp 219), type := 4, pos := _, after := #[{ on := 7, ground := Ground.data }, { on := 3, ground := Ground.chain }], guard := none }) (v := ?_) rfl (by kernel_rfl) (by kernel_rfl) (by kernel_rfl) (fun _ _ _ h => h) (Or.inl ⟨by rfl, ?_⟩) (by assumption) ?_
  rotate_left 1
  · (intro w hSw; (try dsimp only at hSw); go_simp; (try (with_reducible rfl)))
  try simp only [Act.put, List.setIfInBounds_toArray, List.set_cons_zero, List.set_cons_succ]
  refine wpAnyH_take (i := 9) (oi := { dst := some 221, op := Op.move (Operand.tmp 20), type := 41, pos := _, after := #[{ on := 8, ground := Ground.guard }], guard := some (8, true) }) (v := ?_) rfl (by kernel_rfl) (by kernel_rfl) (by kernel_rfl) (fun _ _ _ h => h) (Or.inl ⟨by rfl, ?_⟩) (by assumption) ?_
  rotate_left 1
  · (intro w hSw; (try dsimp only at hSw); go_simp; (try (with_reducible rfl)))
  try simp only [Act.put, List.setIfInBounds_toArray, List.set_cons_zero, List.set_cons_succ]
  refine wpAnyH_take (i := 10) (oi := { dst := some 222, op := Op.indexAddr 41 (Operand.tmp 221) (Operand.const (Value.int IntKind.i64 1)), type := 0, pos := _, after := #[{ on := 9, ground := Ground.data }, { on := 8, ground := Ground.guard }], guard := some (8, true) }) (v := ?_) rfl (by kernel_rfl) (by kernel_rfl) (by kernel_rfl) (fun _ _ _ h => h) (Or.inl ⟨by rfl, ?_⟩) (by assumption) ?_
  rotate_left 1
  · (intro w hSw; (try dsimp only at hSw); go_simp; (try (with_reducible rfl)))
  try simp only [Act.put, List.setIfInBounds_toArray, List.set_cons_zero, List.set_cons_succ]
  refine wpAnyH_take (i := 11) (oi := { dst := some 223, op := Op.load 34 (Operand.tmp 222), type := 34, pos := _, after := #[{ on := 10, ground := Ground.data }, { on := 8, ground := Ground.guard }], guard := some (8, true) }) (v := ?_) rfl (by kernel_rfl) (by kernel_rfl) (by kernel_rfl) (fun _ _ _ h => h) (Or.inl ⟨by rfl, ?_⟩) (by assumption) ?_
  rotate_left 1
  · (intro w hSw; (try dsimp only at hSw); go_simp; (try (with_reducible rfl)))
  try simp only [Act.put, List.setIfInBounds_toArray, List.set_cons_zero, List.set_cons_succ]
  refine wpAnyH_ready (rs := [12]) (by kernel_rfl) (by simp) ?_
  refine AllReadyH.cons rfl (fun K hK => ?_) AllReadyH.nil
  go_simp
  try simp only []
  refine hK.out _ _ ?_ (fun hHeld2 => ?_)
  · exact d1
  clear hK K hHeld1
  try simp only [Act.put, List.setIfInBounds_toArray, List.set_cons_zero, List.set_cons_succ]
  refine wpAnyH_ready (rs := [13]) (by kernel_rfl) (by simp) ?_
  refine AllReadyH.cons rfl (fun K hK => ?_) AllReadyH.nil
  go_simp
  try simp only []
  refine hK.out _ _ ?_ (fun hHeld3 => ?_)
  · exact d2
  clear hK K hHeld2
  try simp only [Act.put, List.setIfInBounds_toArray, List.set_cons_zero, List.set_cons_succ]
  refine wpAnyH_ready (rs := [14]) (by kernel_rfl) (by simp) ?_
  refine AllReadyH.cons rfl (fun K hK => ?_) AllReadyH.nil
  go_simp
  go_at_call 11
  with_reducible refine hs3.mono ?_
  rintro e w6 ⟨rfl, rfl⟩
  try simp only []
  refine hK.out _ _ ?_ (fun hHeld4 => ?_)
  · exact d2
  clear hK K hHeld3
  try simp only [Act.put, List.setIfInBounds_toArray, List.set_cons_zero, List.set_cons_succ]
  refine wpAnyH_ready (rs := [15]) (by kernel_rfl) (by simp) ?_
  refine AllReadyH.cons rfl (fun K hK => ?_) AllReadyH.nil
  go_simp
  go_at_call 18
  with_reducible refine (hpt _).mono ?_
  rintro e w6 ⟨rfl, rfl⟩
  try simp only []
  refine hK.out _ _ ?_ (fun hHeld5 => ?_)
  · exact d2
  clear hK K hHeld4
  try simp only [Act.put, List.setIfInBounds_toArray, List.set_cons_zero, List.set_cons_succ]
  refine wpAnyH_take (i := 16) (oi := { dst := some 228, op := Op.binOp BinOp.eql 34 (Operand.tmp 223) (Operand.tmp 227) 34, type := 4, pos := _, after := #[{ on := 11, ground := Ground.data }, { on := 15, ground := Ground.data }, { on := 8, ground := Ground.guard }], guard := some (8, true) }) (v := ?_) rfl (by kernel_rfl) (by kernel_rfl) (by kernel_rfl) (fun _ _ _ h => h) (Or.inl ⟨by rfl, ?_⟩) (by assumption) ?_
  rotate_left 1
  · (intro w hSw; (try dsimp only at hSw); go_simp; (try (with_reducible rfl)))
  try simp only [Act.put, List.setIfInBounds_toArray, List.set_cons_zero, List.set_cons_succ]
  refine wpAnyH_take (i := 17) (oi := { dst := some 229, op := Op.pick (Operand.tmp 220) (Operand.tmp 228) (Operand.const (Value.bool false)), type := 4, pos := _, after := #[{ on := 8, ground := Ground.data }, { on := 16, ground := Ground.data }], guard := none }) (v := ?_) rfl (by kernel_rfl) (by kernel_rfl) (by kernel_rfl) (fun _ _ _ h => h) (Or.inl ⟨by rfl, ?_⟩) (by assumption) ?_
  rotate_left 1
  · (intro w hSw; (try dsimp only at hSw); go_simp; (try (with_reducible rfl)))
  try simp only [Act.put, List.setIfInBounds_toArray, List.set_cons_zero, List.set_cons_succ]
  refine wpAnyH_take (i := 18) (oi := { dst := some 230, op := Op.move (Operand.tmp 229), type := 4, pos := _, after := #[{ on := 17, ground := Ground.data }, { on := 15, ground := Ground.chain }], guard := none }) (v := ?_) rfl (by kernel_rfl) (by kernel_rfl) (by kernel_rfl) (fun _ _ _ h => h) (Or.inl ⟨by rfl, ?_⟩) (by assumption) ?_
  rotate_left 1
  · (intro w hSw; (try dsimp only at hSw); go_simp; (try (with_reducible rfl)))
  try simp only [Act.put, List.setIfInBounds_toArray, List.set_cons_zero, List.set_cons_succ]
  refine wpAnyH_ready (rs := [19]) (by kernel_rfl) (by simp) ?_
  refine AllReadyH.cons rfl (fun K hK => ?_) AllReadyH.nil
  go_simp
  go_at_call 18
  with_reducible refine (point_one _).mono ?_
  rintro e w6 ⟨rfl, rfl⟩
  try simp only []
  refine hK.out _ _ ?_ (fun hHeld6 => ?_)
  · exact d2
  clear hK K hHeld5
  try simp only [Act.put, List.setIfInBounds_toArray, List.set_cons_zero, List.set_cons_succ]
  refine wpAnyH_take (i := 20) (oi := { dst := some 232, op := Op.binOp BinOp.eql 34 (Operand.tmp 231) (Operand.const (Value.int IntKind.u32 1452414493)) 34, type := 4, pos := _, after := #[{ on := 19, ground := Ground.data }, { on := 18, ground := Ground.guard }], guard := some (18, true) }) (v := ?_) rfl (by kernel_rfl) (by kernel_rfl) (by kernel_rfl) (fun _ _ _ h => h) (Or.inl ⟨by rfl, ?_⟩) (by assumption) ?_
  rotate_left 1
  · (intro w hSw; (try dsimp only at hSw); go_simp; (try (with_reducible rfl)))
  try simp only [Act.put, List.setIfInBounds_toArray, List.set_cons_zero, List.set_cons_succ]
  refine wpAnyH_take (i := 21) (oi := { dst := some 233, op := Op.pick (Operand.tmp 230) (Operand.tmp 232) (Operand.const (Value.bool false)), type := 4, pos := _, after := #[{ on := 18, ground := Ground.data }, { on := 20, ground := Ground.data }], guard := none }) (v := ?_) rfl (by kernel_rfl) (by kernel_rfl) (by kernel_rfl) (fun _ _ _ h => h) (Or.inl ⟨by rfl, ?_⟩) (by assumption) ?_
  rotate_left 1
  · (intro w hSw; (try dsimp only at hSw); go_simp; (try (with_reducible rfl)))
  try simp only [Act.put, List.setIfInBounds_toArray, List.set_cons_zero, List.set_cons_succ]
  refine wpAnyH_take (i := 22) (oi := { dst := some 2, op := Op.assign (Operand.tmp 233), type := 4, pos := _, after := #[{ on := 21, ground := Ground.data }, { on := 19, ground := Ground.chain }, { on := 0, ground := Ground.phase }, { on := 1, ground := Ground.phase }, { on := 2, ground := Ground.phase }, { on := 3, ground := Ground.phase }, { on := 4, ground := Ground.phase }, { on := 5, ground := Ground.phase }, { on := 6, ground := Ground.phase }, { on := 7, ground := Ground.phase }, { on := 8, ground := Ground.phase }, { on := 9, ground := Ground.phase }, { on := 10, ground := Ground.phase }, { on := 11, ground := Ground.phase }, { on := 12, ground := Ground.phase }, { on := 13, ground := Ground.phase }, { on := 14, ground := Ground.phase }, { on := 15, ground := Ground.phase }, { on := 16, ground := Ground.phase }, { on := 17, ground := Ground.phase }, { on := 18, ground := Ground.phase }, { on := 19, ground := Ground.phase }, { on := 20, ground := Ground.phase }, { on := 21, ground := Ground.phase }], guard := none }) (v := ?_) rfl (by kernel_rfl) (by kernel_rfl) (by kernel_rfl) (fun _ _ _ h => h) (Or.inl ⟨by rfl, ?_⟩) (by assumption) ?_
  rotate_left 1
  · (intro w hSw; (try dsimp only at hSw); go_simp; (try (with_reducible rfl)))
  try simp only [Act.put, List.setIfInBounds_toArray, List.set_cons_zero, List.set_cons_succ]
  refine wpAnyH_done (by kernel_rfl) ?_ _
  refine NoPanic.normal ?_
  go_wp2
  go_ret
  exact ⟨rfl, HFE2.out⟩

end Go.Proofs.Ytcbogbohafmnhaa
