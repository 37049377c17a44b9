/-
  CountTop.
-/
import Derived.Test.YtonbkpfnpnlkpaaDoorTp
namespace Go.Proofs.YtonbkpfnpnlkpaaDoor
open Go.RowKit
set_option linter.unusedVariables false
set_option linter.unusedSimpArgs false
attribute [local go_sem] Oper.semAt_some

set_option maxRecDepth 100000 in
set_option maxHeartbeats 40000000 in
theorem top_7n (n : Int) (f : Nat) (v : Value) (l : List Nat) (w : World) (hW : Wo w) (hn : -9223372036854775808 ≤ n ∧ n ≤ 9223372036854775807) (hf : f ≤ 18446744073709551615) (hv : Us w v l) (hneg : n < 0) :
    Calls Tryd.prog 7 #[.int .i64 n, .int .u64 (f : Nat), v] w fun e w' => e = .returned (.bool true) ∧ w.grownBy w' none := by
  obtain ⟨ao, c, rfl, hlc, hc, hlm, hx⟩ := hv
  unfold maxLen at hc
  have hlen : l.length ≤ 9223372036854775807 := by omega
  have h10 := wakes_10 w hW
  obtain ⟨m, hm⟩ : ∃ m, nmOf n = m := ⟨_, rfl⟩
  have hm30 : m < 30 := by rw [← hm]; exact nmOf_lt n
  go_enter Tryd.func7, Tryd.ntmps7
  go_wp2_with (go_at_call 10; (with_reducible refine h10.mono ?_); rintro e w1 ⟨rfl, hg1⟩)
  have W1 := hW.kept (Kp.of (F := fun _ => False) hg1) (fun h => h)
  refine (new_11 w1).mono ?_
  rintro e w2 ⟨rfl, ha2, hg2, hs2⟩
  go_wp2_with fail
  refine (new_11 w2).mono ?_
  rintro e w3 ⟨rfl, hb3, hg3, hs3⟩
  have ha3 : Bd w3 w1.heap.size 0 N0 := Box.kept ha2 hg3 (by simp)
  have G3 := gb_trans (gb_trans hg1 hg2) hg3
  have W3 := hW.kept (Kp.of (F := fun _ => False) G3) (fun h => h)
  obtain ⟨a, ha⟩ : ∃ a, a = w1.heap.size := ⟨_, rfl⟩
  obtain ⟨b, hb⟩ : ∃ b, b = w2.heap.size := ⟨_, rfl⟩
  have hab : ¬ a = b := by omega
  have hba : ¬ b = a := by omega
  have hwa : w.heap.size ≤ a := by have := hg1.size; omega
  have hwb : w.heap.size ≤ b := by have := hg2.size; omega
  have h00 := hW.lt
  rw [← ha] at ha3 ⊢
  rw [← hb] at hb3 ⊢
  clear ha hb ha2 hg2 hg3 hs2 hs3 h10 hg1 W1 hW
  have e30 : wrap64 (-(n + 1).tmod 30 + 1) = (m : Int) + 1 := by
    have h1 : ((-(n + 1)) % 30).toNat = m := by rw [← hm, nmOf, if_pos hneg]
    have h2 : -(n + 1).tmod 30 = (-(n + 1)) % 30 := by rw [← Int.neg_tmod, Int.tmod_eq_emod_of_nonneg (by omega)]
    rw [h2]; unfold wrap64; omega
  clear hm
  go_wp2_with fail
  refine (set_24 a N0 ((m : Int) + 1) f w3 ha3).mono ?_
  rw [if_pos (by simp [nm]; omega), show ((m : Int) + 1).toNat = m + 1 by omega]
  rintro e w4 ⟨rfl, ha4, hk4⟩
  have hb4 := Bd.kept hb3 hk4 hba
  have W4 := W3.kept hk4 (by omega)
  have G4 : w.grownBy w4 none := ((Kp.of (F := (· = a)) G3).then hk4).grown (fun i h => by omega)
  clear hk4 ha3 hb3 W3 G3
  go_wp2
  go_loopw [9, 10] (fun u v wr => ∃ i s : Nat, i ≤ l.length ∧ i ≤ 2000 ∧ u = .int .u64 (s : Nat) ∧ v = .int .i64 i ∧ s ≤ 18446744073709551615 ∧ Bd wr a 0 (upd N0 (m + 1) s) ∧ Bd wr b 0 N0 ∧ Wo wr ∧ w.grownBy wr none) (fun _ v _ => l.length - (intOf v).toNat)
  case atStart => exact ⟨0, f, by omega, by omega, rfl, rfl, hf, ha4, hb4, W4, G4⟩
  case round =>
    obtain ⟨i, s, hi, hi2, rfl, rfl, hs, ha, hb, Wr, G⟩ := hrel
    rcases (by omega : (i < l.length ∧ i < 2000) ∨ ¬ (i < l.length ∧ i < 2000)) with ⟨hlt, hlt2⟩ | hend
    · obtain ⟨x, hxi⟩ : ∃ x, l[i]? = some x := ⟨_, List.getElem?_eq_getElem hlt⟩
      have hxm := hlm x (List.mem_of_getElem? hxi)
      obtain ⟨g, o, rfl, hcell⟩ := hx i x hxi
      have hcell1 := gb_cellN G hcell
      have hgw : g < w.heap.size := World.block_lt_of_cell? _ _ hcell
      have d1 : (i : Int) < l.length := by omega
      have d2 : (i : Int) < 2000 := by omega
      clear hx hcell
      go_wp2_with fail
      refine (add_23 a (upd N0 (m + 1) s) ((m : Int) + 1) x wr ha (upd_fit _ _ hs) hxm).mono ?_
      rw [if_pos (by simp [nm]; omega), show ((m : Int) + 1).toNat = m + 1 by omega, upd_plus _ _ _ hs]
      rintro e w5 ⟨rfl, ha5, hk5⟩
      have hb5 := Bd.kept hb hk5 hba
      have W5 := Wr.kept hk5 (by omega)
      have G5 : w.grownBy w5 none := ((Kp.of (F := (· = a)) G).then hk5).grown (fun i h => by omega)
      have hcell5 := hk5.cell hcell1 (by omega)
      clear hk5
      by_cases ho : s + x ≤ 18446744073709551615
      · rw [show min (s + x) 18446744073709551615 = s + x by omega] at ha5
        obtain ⟨t, ht⟩ : ∃ t : Nat, t = s + x := ⟨_, rfl⟩
        have e1 : ¬ (18446744073709551615 - (s : Int) < (x : Int)) := by omega
        have e2 : (s : Int) + (x : Int) = (t : Int) := by omega
        have ht2 : t ≤ 18446744073709551615 := by omega
        rw [← ht] at ha5
        have h17 := read_17 a (upd N0 (m + 1) t) ((m : Int) + 1) w5 ha5
        rw [rd_upd m t hm30] at h17
        clear ht ho
        go_wp2_with (go_at_call 17; (with_reducible refine h17.mono ?_); rintro e w6 ⟨rfl, ha6, hk6⟩)
        have G6 : w.grownBy w6 none := ((Kp.of (F := (· = a)) G5).then hk6).grown (fun i h => by omega)
        refine ⟨⟨i + 1, t, by omega, by omega, rfl, by simp, ht2, ha6, Bd.kept hb5 hk6 hba, W5.kept hk6 (by omega), G6⟩, ?_⟩
        simp only [intOf]; omega
      · rw [show min (s + x) 18446744073709551615 = 18446744073709551615 by omega] at ha5
        have e1 : 18446744073709551615 - (s : Int) < (x : Int) := by omega
        have h17 := read_17 a (upd N0 (m + 1) 18446744073709551615) ((m : Int) + 1) w5 ha5
        rw [rd_upd m _ hm30] at h17
        clear ho
        go_wp2_with (go_at_call 17; (with_reducible refine h17.mono ?_); rintro e w6 ⟨rfl, ha6, hk6⟩)
        have G6 : w.grownBy w6 none := ((Kp.of (F := (· = a)) G5).then hk6).grown (fun i h => by omega)
        refine ⟨⟨i + 1, 18446744073709551615, by omega, by omega, rfl, by simp, by omega, ha6, Bd.kept hb5 hk6 hba, W5.kept hk6 (by omega), G6⟩, ?_⟩
        simp only [intOf]; omega
    · have hst := stats_15 a (upd N0 (m + 1) s) wr ha Wr (by omega)
      have hstop : ¬ ((i : Int) < l.length) ∨ ((i : Int) < l.length ∧ ¬ ((i : Int) < 2000)) := by omega
      clear hx hlm hend
      rcases hstop with h1 | ⟨h1, h2⟩
      · go_wp2_with (go_at_call 15; (with_reducible refine hst.mono ?_); rintro e w5 ⟨v5, rfl, ⟨g, cap, rfl, hr⟩, ha5, hk5⟩)
        have hrl := World.ownsRow.lt hr g rfl
        have hgr := G.size
        have hb5 := Bd.kept hb hk5 hba
        have W5 := Wr.kept hk5 (by omega)
        have G5 : w.grownBy w5 none := ((Kp.of (F := (· = a)) G).then hk5).grown (fun i h => by omega)
        have hga : ¬ g = a := by have := ha.lt; omega
        have hgb : ¬ g = b := by have := hb.lt; omega
        clear hst ha hb Wr G
        go_loopw [12] (fun v wq => ∃ j : Nat, j ≤ 30 ∧ v = .int .i64 j ∧ Bd wq a 0 (upd N0 (m + 1) s) ∧ Bd wq b 0 N0 ∧ Kp (· = b) w5 wq) (fun v _ => 30 - (intOf v).toNat)
        case atStart => exact ⟨0, by omega, rfl, ha5, hb5, Kp.refl _ _⟩
        case round =>
          obtain ⟨j, hj, rfl, ha6, hb6, hk6⟩ := hrel
          have Wq := W5.kept hk6 (by omega)
          rcases (by omega : j < 30 ∨ j = 30) with hlt | rfl
          · obtain ⟨c0, c1⟩ := row_st hr hlt
            have q0 := hk6.cell c0 hgb
            have q1 := hk6.cell c1 hgb
            have h25 := fun (X : World) (hX : wr.grownBy X none) => name_25 ((j : Int) + 1) X (Wq.kept (Kp.of (F := fun _ => False) hX) (fun h => h))
            rw [nmW_in j hlt] at h25
            have h17 := fun (X : World) (hX : wr.grownBy X none) => read_17 b N0 ((j : Int) + 1) X (Box.kept hb6 hX (by simp))
            rw [show rd N0 ((j : Int) + 1) = 0 from by simp [rd, N0]] at h17
            generalize wrd (j + 1) = x at *
            have d1 : (j : Int) < 30 := by omega
            have ew : IntKind.i64.wrap ((j : Int) + 1) = (j : Int) + 1 := by simp only [IntKind.wrap_i64]; omega
            by_cases he : j = m
            · subst he
              rw [show upd N0 (j + 1) s (j + 1) = s from upd_same _ _ _] at q1
              clear c0 c1
              go_wp2_with fail
              go_region_held3 (fun X => X.cell? ⟨g, j * 2, none⟩ = some (sv x) ∧ X.cell? ⟨g, j * 2 + 1, none⟩ = some (.int .u64 (s : Nat))) ((first | exact ⟨hk7.cell q0 hgb, hk7.cell q1 hgb⟩ | go_keep)) ((first | (go_at_call 25; (first | (with_reducible refine (h25 _ (gb_drew (gb_refl _ _))).mono ?_) | (with_reducible refine (h25 _ (gb_drewN (gb_refl _ _) _)).mono ?_) | (with_reducible refine (h25 _ (gb_refl _ _)).mono ?_) | (with_reducible refine (h25 _ (gb_drewN (gb_drew (gb_refl _ _)) _)).mono ?_)); rintro e3 w3 ⟨rfl, rfl⟩) | (go_at_call 17; (first | (with_reducible refine (h17 _ (gb_drew (gb_refl _ _))).mono ?_) | (with_reducible refine (h17 _ (gb_drewN (gb_refl _ _) _)).mono ?_) | (with_reducible refine (h17 _ (gb_refl _ _)).mono ?_) | (with_reducible refine (h17 _ (gb_drewN (gb_drew (gb_refl _ _)) _)).mono ?_)); rintro e7 w7 ⟨rfl, hb7, hk7⟩)))
              go_wp2
              refine ⟨⟨j + 1, by omega, by simp, Bd.kept ha6 ((Kp.drew _ _).then hk7) hab, hb7, hk6.then ((Kp.drew _ _).then hk7)⟩, ?_⟩
              simp only [intOf]; omega
            · rw [show upd N0 (m + 1) s (j + 1) = 0 from upd_other _ _ (by omega)] at q1
              have hne : ¬ ((j : Int) + 1 = (m : Int) + 1) := by omega
              clear c0 c1
              go_wp2_with fail
              go_region_held3 (fun X => X.cell? ⟨g, j * 2, none⟩ = some (sv x) ∧ X.cell? ⟨g, j * 2 + 1, none⟩ = some (.int .u64 0)) ((first | exact ⟨hk7.cell q0 hgb, hk7.cell q1 hgb⟩ | go_keep)) ((first | (go_at_call 25; (first | (with_reducible refine (h25 _ (gb_drew (gb_refl _ _))).mono ?_) | (with_reducible refine (h25 _ (gb_drewN (gb_refl _ _) _)).mono ?_) | (with_reducible refine (h25 _ (gb_refl _ _)).mono ?_) | (with_reducible refine (h25 _ (gb_drewN (gb_drew (gb_refl _ _)) _)).mono ?_)); rintro e3 w3 ⟨rfl, rfl⟩) | (go_at_call 17; (first | (with_reducible refine (h17 _ (gb_drew (gb_refl _ _))).mono ?_) | (with_reducible refine (h17 _ (gb_drewN (gb_refl _ _) _)).mono ?_) | (with_reducible refine (h17 _ (gb_refl _ _)).mono ?_) | (with_reducible refine (h17 _ (gb_drewN (gb_drew (gb_refl _ _)) _)).mono ?_)); rintro e7 w7 ⟨rfl, hb7, hk7⟩)))
              go_wp2
              refine ⟨⟨j + 1, by omega, by simp, Bd.kept ha6 ((Kp.drew _ _).then hk7) hab, hb7, hk6.then ((Kp.drew _ _).then hk7)⟩, ?_⟩
              simp only [intOf]; omega
          · have G6 : w.grownBy wr none := ((Kp.of (F := (· = b)) G5).then hk6).grown (fun i h => by omega)
            go_wp2_with fail
            refine (reset_26 a _ wr ha6).mono ?_
            rintro e w7 ⟨rfl, ha7, hk7⟩
            have G7 : w.grownBy w7 none := ((Kp.of (F := (· = a)) G6).then hk7).grown (fun i h => by omega)
            have h17 := read_17 a _ ((m : Int) + 1) w7 ha7
            by_cases hst : m = 24 ∨ m = 25 ∨ m = 27
            · rw [show rd (rst (upd N0 (m + 1) s) 30) ((m : Int) + 1) = s from by
                simp only [rd]; rw [if_pos (by simp [nm]; omega), show ((m : Int) + 1).toNat = m + 1 by omega]
                simp only [rst]; rw [if_neg (by omega), upd_same]] at h17
              clear ha7 ha6 hb6 Wq hr ha5 hb5 e30 hba hab
              rcases hst with rfl | rfl | rfl
              all_goals
                go_wp2_with fail
                refine h17.mono ?_
                rintro e w8 ⟨rfl, ha8, hk8⟩
                go_wp2
                go_ret
                refine ⟨by simp, ((Kp.of (F := (· = a)) G7).then hk8).grown (fun i h => by omega)⟩
            · rw [show rd (rst (upd N0 (m + 1) s) 30) ((m : Int) + 1) = 0 from by
                simp only [rd]; rw [if_pos (by simp [nm]; omega), show ((m : Int) + 1).toNat = m + 1 by omega]
                simp only [rst]; rw [if_pos (by omega)]] at h17
              have x1 : ¬ ((m : Int) + 1 = 25) := by omega
              have x2 : ¬ ((m : Int) + 1 = 26) := by omega
              have x3 : ¬ ((m : Int) + 1 = 28) := by omega
              clear ha7 ha6 hb6 Wq hr ha5 hb5 hst
              go_wp2_with fail
              all_goals first
                | (exfalso; simp_all; done)
                | (refine h17.mono ?_
                   rintro e w8 ⟨rfl, ha8, hk8⟩
                   go_wp2
                   go_ret
                   refine ⟨by simp, ((Kp.of (F := (· = a)) G7).then hk8).grown (fun i h => by omega)⟩)
      · go_wp2_with (go_at_call 15; (with_reducible refine hst.mono ?_); rintro e w5 ⟨v5, rfl, ⟨g, cap, rfl, hr⟩, ha5, hk5⟩)
        have hrl := World.ownsRow.lt hr g rfl
        have hgr := G.size
        have hb5 := Bd.kept hb hk5 hba
        have W5 := Wr.kept hk5 (by omega)
        have G5 : w.grownBy w5 none := ((Kp.of (F := (· = a)) G).then hk5).grown (fun i h => by omega)
        have hga : ¬ g = a := by have := ha.lt; omega
        have hgb : ¬ g = b := by have := hb.lt; omega
        clear hst ha hb Wr G
        go_loopw [12] (fun v wq => ∃ j : Nat, j ≤ 30 ∧ v = .int .i64 j ∧ Bd wq a 0 (upd N0 (m + 1) s) ∧ Bd wq b 0 N0 ∧ Kp (· = b) w5 wq) (fun v _ => 30 - (intOf v).toNat)
        case atStart => exact ⟨0, by omega, rfl, ha5, hb5, Kp.refl _ _⟩
        case round =>
          obtain ⟨j, hj, rfl, ha6, hb6, hk6⟩ := hrel
          have Wq := W5.kept hk6 (by omega)
          rcases (by omega : j < 30 ∨ j = 30) with hlt | rfl
          · obtain ⟨c0, c1⟩ := row_st hr hlt
            have q0 := hk6.cell c0 hgb
            have q1 := hk6.cell c1 hgb
            have h25 := fun (X : World) (hX : wr.grownBy X none) => name_25 ((j : Int) + 1) X (Wq.kept (Kp.of (F := fun _ => False) hX) (fun h => h))
            rw [nmW_in j hlt] at h25
            have h17 := fun (X : World) (hX : wr.grownBy X none) => read_17 b N0 ((j : Int) + 1) X (Box.kept hb6 hX (by simp))
            rw [show rd N0 ((j : Int) + 1) = 0 from by simp [rd, N0]] at h17
            generalize wrd (j + 1) = x at *
            have d1 : (j : Int) < 30 := by omega
            have ew : IntKind.i64.wrap ((j : Int) + 1) = (j : Int) + 1 := by simp only [IntKind.wrap_i64]; omega
            by_cases he : j = m
            · subst he
              rw [show upd N0 (j + 1) s (j + 1) = s from upd_same _ _ _] at q1
              clear c0 c1
              go_wp2_with fail
              go_region_held3 (fun X => X.cell? ⟨g, j * 2, none⟩ = some (sv x) ∧ X.cell? ⟨g, j * 2 + 1, none⟩ = some (.int .u64 (s : Nat))) ((first | exact ⟨hk7.cell q0 hgb, hk7.cell q1 hgb⟩ | go_keep)) ((first | (go_at_call 25; (first | (with_reducible refine (h25 _ (gb_drew (gb_refl _ _))).mono ?_) | (with_reducible refine (h25 _ (gb_drewN (gb_refl _ _) _)).mono ?_) | (with_reducible refine (h25 _ (gb_refl _ _)).mono ?_) | (with_reducible refine (h25 _ (gb_drewN (gb_drew (gb_refl _ _)) _)).mono ?_)); rintro e3 w3 ⟨rfl, rfl⟩) | (go_at_call 17; (first | (with_reducible refine (h17 _ (gb_drew (gb_refl _ _))).mono ?_) | (with_reducible refine (h17 _ (gb_drewN (gb_refl _ _) _)).mono ?_) | (with_reducible refine (h17 _ (gb_refl _ _)).mono ?_) | (with_reducible refine (h17 _ (gb_drewN (gb_drew (gb_refl _ _)) _)).mono ?_)); rintro e7 w7 ⟨rfl, hb7, hk7⟩)))
              go_wp2
              refine ⟨⟨j + 1, by omega, by simp, Bd.kept ha6 ((Kp.drew _ _).then hk7) hab, hb7, hk6.then ((Kp.drew _ _).then hk7)⟩, ?_⟩
              simp only [intOf]; omega
            · rw [show upd N0 (m + 1) s (j + 1) = 0 from upd_other _ _ (by omega)] at q1
              have hne : ¬ ((j : Int) + 1 = (m : Int) + 1) := by omega
              clear c0 c1
              go_wp2_with fail
              go_region_held3 (fun X => X.cell? ⟨g, j * 2, none⟩ = some (sv x) ∧ X.cell? ⟨g, j * 2 + 1, none⟩ = some (.int .u64 0)) ((first | exact ⟨hk7.cell q0 hgb, hk7.cell q1 hgb⟩ | go_keep)) ((first | (go_at_call 25; (first | (with_reducible refine (h25 _ (gb_drew (gb_refl _ _))).mono ?_) | (with_reducible refine (h25 _ (gb_drewN (gb_refl _ _) _)).mono ?_) | (with_reducible refine (h25 _ (gb_refl _ _)).mono ?_) | (with_reducible refine (h25 _ (gb_drewN (gb_drew (gb_refl _ _)) _)).mono ?_)); rintro e3 w3 ⟨rfl, rfl⟩) | (go_at_call 17; (first | (with_reducible refine (h17 _ (gb_drew (gb_refl _ _))).mono ?_) | (with_reducible refine (h17 _ (gb_drewN (gb_refl _ _) _)).mono ?_) | (with_reducible refine (h17 _ (gb_refl _ _)).mono ?_) | (with_reducible refine (h17 _ (gb_drewN (gb_drew (gb_refl _ _)) _)).mono ?_)); rintro e7 w7 ⟨rfl, hb7, hk7⟩)))
              go_wp2
              refine ⟨⟨j + 1, by omega, by simp, Bd.kept ha6 ((Kp.drew _ _).then hk7) hab, hb7, hk6.then ((Kp.drew _ _).then hk7)⟩, ?_⟩
              simp only [intOf]; omega
          · have G6 : w.grownBy wr none := ((Kp.of (F := (· = b)) G5).then hk6).grown (fun i h => by omega)
            go_wp2_with fail
            refine (reset_26 a _ wr ha6).mono ?_
            rintro e w7 ⟨rfl, ha7, hk7⟩
            have G7 : w.grownBy w7 none := ((Kp.of (F := (· = a)) G6).then hk7).grown (fun i h => by omega)
            have h17 := read_17 a _ ((m : Int) + 1) w7 ha7
            by_cases hst : m = 24 ∨ m = 25 ∨ m = 27
            · rw [show rd (rst (upd N0 (m + 1) s) 30) ((m : Int) + 1) = s from by
                simp only [rd]; rw [if_pos (by simp [nm]; omega), show ((m : Int) + 1).toNat = m + 1 by omega]
                simp only [rst]; rw [if_neg (by omega), upd_same]] at h17
              clear ha7 ha6 hb6 Wq hr ha5 hb5 e30 hba hab
              rcases hst with rfl | rfl | rfl
              all_goals
                go_wp2_with fail
                refine h17.mono ?_
                rintro e w8 ⟨rfl, ha8, hk8⟩
                go_wp2
                go_ret
                refine ⟨by simp, ((Kp.of (F := (· = a)) G7).then hk8).grown (fun i h => by omega)⟩
            · rw [show rd (rst (upd N0 (m + 1) s) 30) ((m : Int) + 1) = 0 from by
                simp only [rd]; rw [if_pos (by simp [nm]; omega), show ((m : Int) + 1).toNat = m + 1 by omega]
                simp only [rst]; rw [if_pos (by omega)]] at h17
              have x1 : ¬ ((m : Int) + 1 = 25) := by omega
              have x2 : ¬ ((m : Int) + 1 = 26) := by omega
              have x3 : ¬ ((m : Int) + 1 = 28) := by omega
              clear ha7 ha6 hb6 Wq hr ha5 hb5 hst
              go_wp2_with fail
              all_goals first
                | (exfalso; simp_all; done)
                | (refine h17.mono ?_
                   rintro e w8 ⟨rfl, ha8, hk8⟩
                   go_wp2
                   go_ret
                   refine ⟨by simp, ((Kp.of (F := (· = a)) G7).then hk8).grown (fun i h => by omega)⟩)
end Go.Proofs.YtonbkpfnpnlkpaaDoor
