import Derived.Test.YtobegepebochkaaGreatDoorRPbo
import Derived.Test.YtobegepebochkaaGreatDoorRPbm
import Derived.Deep.CutRange
import Derived.Deep.LoopGhost
import Derived.Deep.RegionHeld3
import Derived.Test.YtobegepebochkaaGreatDoorRPar
import Derived.Test.YtobegepebochkaaGreatDoorRPaw
import Derived.Test.YtobegepebochkaaGreatDoorRPau
set_option linter.unusedVariables false
set_option linter.unusedSimpArgs false
set_option maxRecDepth 100000
set_option maxHeartbeats 16000000
namespace Go.Proofs.YtobegepebochkaaGreatDoor
open Go.RowKit Go.Maps
def Lnt (w : World) (lb B g c : Nat) (D : Bs) : Prop :=
  ∃ gl cl gw cw u cu, Box w 68 lb #[.slice (some ⟨gl, 0, none⟩) 1 cl, .slice (some ⟨gw, 0, none⟩) 1 cw, .slice none 0 0, .slice none 0 0] /\ w.ownsRow B 38 1 (.slice (some ⟨gl, 0, none⟩) 1 cl) 1 [.slice (some ⟨g, 0, none⟩) D.length c] /\ w.ownsRow B 38 1 (.slice (some ⟨gw, 0, none⟩) 1 cw) 1 [.slice (some ⟨u, 0, none⟩) D.length cu] /\ w.ownsRow B 5 1 (.slice (some ⟨g, 0, none⟩) D.length c) D.length (D.map b8) /\ w.ownsRow B 5 1 (.slice (some ⟨u, 0, none⟩) D.length cu) D.length (D.map b8) /\ gl ≠ gw /\ g ≠ u
abbrev mk40 : Bs := List.replicate 40 165
theorem loan_46 {w : World} {lb : Nat} (hb : Box w 68 lb #[.slice none 0 0, .slice none 0 0, .slice none 0 0, .slice none 0 0]) {v : Value} {l : Bs} (hv : Bw w v l) (hl : l.length <= 900000) :
    Calls Tryz.prog 46 #[.pointer (some ⟨lb, 0, none⟩), v] w fun e w' => ∃ g c, e = .returned (.slice (some ⟨g, 0, none⟩) l.length c) /\ Lnt w' lb w.heap.size g c (l ++ mk40) /\ w.grownBy w' (some lb) := by
  obtain ⟨tO, TO⟩ := ty_22
  obtain ⟨tI, TI⟩ := ty_38
  have hlb := hb.lt
  obtain ⟨va, vn, vc, rfl, rfl⟩ := hv.slice
  have g0 := gb_alloc (gb_refl w none) (.cells #[] 5)
  have hE0 : (w.alloc (.cells #[] 5)).ownsRow w.heap.size 5 1 (.slice (some ⟨w.heap.size, 0, none⟩) 0 0) 0 [] := ⟨rfl, .inr ⟨w.heap.size, 0, #[], rfl, Nat.le_refl _, heap_alloc_new w _, Nat.le_refl _, by unfold maxLen; omega, rfl, rfl⟩⟩
  have hv2 := hv.kept g0
  go_enter Tryz.func46, Tryz.ntmps46
  go_wp2_with (first
    | (at_builtin; (refine moreZ TI rfl rfl rfl _ _ rfl w.heap.size _ l.length _ (by rfl) h1 40 (by rfl) (by omega) (by omega) (by omega) s1 ?_); intro g c w2 h2 gg2 at2)
    | (at_builtin; go_must (refine moreW rfl _ _ rfl w.heap.size _ 0 [] (by rfl) hE0 _ l (by rfl) hv2 (by omega) (by simp) ?_); intro v1 w1 h1z gg1; (have k1 : w.grownBy w1 none := gb_mine g0 gg1 (by simp [Value.ownBlock])); (have s1 := k1.size); (have h1 : w1.ownsRow w.heap.size 5 1 v1 l.length (l.map b8) := by simpa using h1z)))
  have k2 : w.grownBy w2 none := gb_far k1 gg2 (fun j hj => (row_ge h1 hj).1) (Nat.le_refl _)
  have hcb : l.length + 40 <= c /\ c <= 9223372036854775807 := by
    obtain ⟨a0, c0, q0, -, q1, q2, -⟩ := row_shape h2
    cases q0
    unfold maxLen at q2
    omega
  have hrz : (l.map b8 ++ List.replicate 40 (Value.int .u8 0)) = (l ++ List.replicate 0 165 ++ List.replicate 40 0).map b8 := by simp
  rw [hrz] at h2
  obtain ⟨n, hn⟩ : ∃ n, l.length = n := ⟨_, rfl⟩
  rw [hn] at h2 hcb hl ⊢
  have HN : Hid (l.length = n) := hn
  clear h1 h1z gg1 gg2 at2 k1 s1 hE0 g0 hv2 hv hrz hn
  go_loopw [6] (fun x wr => ∃ k : Nat, k <= 40 /\ x = .int .i64 ((n + k : Nat) : Int) /\ wr.ownsRow w.heap.size 5 1 (.slice (some ⟨g, 0, none⟩) (n + 40) c) (n + 40) ((l ++ List.replicate k 165 ++ List.replicate (40 - k) 0).map b8) /\ w.grownBy wr none) (fun x _ => n + 40 - (intOf x).toNat)
  case atStart => exact ⟨0, by omega, rfl, h2, k2⟩
  case round =>
    clear h2 k2
    obtain ⟨k, hk, rfl, hown, hF⟩ := hrel
    have hgb := (row_ge hown (j := g) rfl)
    by_cases hlt : k < 40
    . obtain ⟨j, hj⟩ : ∃ j, n + k = j := ⟨_, rfl⟩
      rw [hj]
      have d1 : (j : Int) < ((n + 40 : Nat) : Int) := by omega
      have hfz := World.ownsRow.frozenAt hown j
      have hcell : wr.cell? ⟨g, j, none⟩ = some (b8 0) := row_cell hown j _ (by
        rw [List.getElem?_map, List.getElem?_append_right (by simp [HN.out]; omega), List.getElem?_replicate, if_pos (by simp [HN.out]; omega)]
        rfl)
      have hset := row_set hown j (b8 165)
      have HO : Hid ((wr.setCell ⟨g, j, none⟩ (b8 165)).ownsRow w.heap.size 5 1 (.slice (some ⟨g, 0, none⟩) (n + 40) c) (n + 40) ((l ++ List.replicate (k + 1) 165 ++ List.replicate (40 - (k + 1)) 0).map b8)) := by
        show World.ownsRow _ _ _ _ _ _ _
        have e : ((l ++ List.replicate k 165 ++ List.replicate (40 - k) (0 : UInt8)).map b8).set j (b8 165) = (l ++ List.replicate (k + 1) 165 ++ List.replicate (40 - (k + 1)) 0).map b8 := by
          rw [<- List.map_set]
          congr 1
          rw [List.set_append_right _ _ (by simp [HN.out]; omega)]
          have e1 : j - (l ++ List.replicate k (165 : UInt8)).length = 0 := by simp [HN.out]; omega
          rw [e1]
          obtain ⟨z, hz⟩ : ∃ z, 40 - k = z + 1 := ⟨39 - k, by omega⟩
          rw [hz, List.replicate_succ, List.set_cons_zero, List.replicate_succ', show 40 - (k + 1) = z by omega]
          simp
        rw [<- e]
        exact hset
      have HF : Hid (w.grownBy (wr.setCell ⟨g, j, none⟩ (b8 165)) none) := gb_mine hF (gb_setCell (gb_refl _ _) _) (by omega)
      clear hown hset hF
      go_wp2_with fail
      go_roundw
      case rel => exact ⟨k + 1, by omega, by go_num, HO.out, HF.out⟩
      case measure => simp [intOf]; omega
    . obtain rfl : k = 40 := by omega
      have hD : (l ++ List.replicate 40 165 ++ List.replicate (40 - 40) (0 : UInt8)) = l ++ mk40 := List.append_nil _
      rw [hD] at hown
      have hbR := hb.kept hF (by simp)
      have c0 : wr.cell? ⟨lb, 0, none⟩ = some (.slice none 0 0) := hbR.cell 0
      have c0a := fun o => gb_cellN (World.grownBy_alloc wr o none) c0
      have hsz := hF.size
      have dn : ¬ (((n + 40 : Nat) : Int) < ((n + 40 : Nat) : Int)) := by omega
      clear hlt hk hD
      go_upto_region 7 with (at_builtin; go_must (refine pushB TO rfl _ _ rfl w.heap.size _ 0 [] (by rfl) (World.ownsRow_nil _ _ _ _) [.slice (some ⟨g, 0, none⟩) (n + 40) c] rfl (by simp [Value.oneCell']) (by rfl) (by omega) hsz ?_); intro gl cl w3 h3 gg3 at3; (have g3 : wr.grownBy w3 none := gg3); (have b3 := hbR.kept g3 (by simp)); (have m0 : w3.cell? ⟨lb, 0, none⟩ = some (.slice none 0 0) := b3.cell 0); (have f0 := b3.fz 0))
      have hb4 : Box (w3.setCell ⟨lb, 0, none⟩ (.slice (some ⟨gl, 0, none⟩) (0 + 1) cl)) 68 lb #[.slice (some ⟨gl, 0, none⟩) 1 cl, .slice none 0 0, .slice none 0 0, .slice none 0 0] := b3.set 0 _
      have gs4 : w3.grownBy (w3.setCell ⟨lb, 0, none⟩ (.slice (some ⟨gl, 0, none⟩) (0 + 1) cl)) (some lb) := gb_setCell (gb_refl _ _) _
      have hr4 := row_kept (row_kept hown g3 (by simp)) gs4 (fun k hk e => row_box (row_kept hown g3 (by simp)) b3 (by decide) k hk e)
      have hl4 := row_kept h3 gs4 (fun k hk e => row_box h3 b3 (by decide) k hk e)
      have gw4 : w.grownBy (w3.setCell ⟨lb, 0, none⟩ (.slice (some ⟨gl, 0, none⟩) (0 + 1) cl)) (some lb) := gb_trans (gb_none _ (gb_trans hF g3)) gs4
      clear m0 f0 gs4 b3 g3 gg3 h3 hown hF hbR c0 c0a at3
      generalize hX : w3.setCell ⟨lb, 0, none⟩ (.slice (some ⟨gl, 0, none⟩) (0 + 1) cl) = X at *
      have k1 : X.cell? ⟨lb, 1, none⟩ = some (.slice none 0 0) := hb4.cell 1
      have k1a := fun o => gb_cellN (World.grownBy_alloc X o none) k1
      have hbl := hb4.lt
      have hE0 : ∀ Y : World, Y.heap.size = X.heap.size -> (Y.alloc (.cells #[] 5)).ownsRow X.heap.size 5 1 (.slice (some ⟨X.heap.size, 0, none⟩) 0 0) 0 [] := fun Y hY => ⟨rfl, .inr ⟨X.heap.size, 0, #[], rfl, Nat.le_refl _, by rw [<- hY]; exact heap_alloc_new Y _, Nat.le_refl _, by unfold maxLen; omega, rfl, rfl⟩⟩
      have HV : Hid (X.ownsRow w.heap.size 5 1 (.slice (some ⟨g, 0, none⟩) (n + 40) c) (n + 40) ((l ++ mk40).map b8)) := hr4
      have HW : Hid (X.ownsRow w.heap.size 38 1 (.slice (some ⟨gl, 0, none⟩) (0 + 1) cl) (0 + 1) ([] ++ [.slice (some ⟨g, 0, none⟩) (n + 40) c])) := hl4
      have HB : Hid (Box X 68 lb #[.slice (some ⟨gl, 0, none⟩) 1 cl, .slice none 0 0, .slice none 0 0, .slice none 0 0]) := hb4
      have HG : Hid (w.grownBy X (some lb)) := gw4
      have hXs := gw4.size
      have hoc : ∀ u ∈ (l ++ mk40).map b8, u.oneCell' = true := fun u hu => by
        obtain ⟨y, _, rfl⟩ := List.mem_map.1 hu
        rfl
      clear hr4 hl4 hb4 gw4 hX
      go_region_law ((first | (refine step_copy TI (xs := (l ++ mk40).map b8) (n := n + 40) (v := .slice (some ⟨g, 0, none⟩) (n + 40) c) (g0 := X.heap.size) (by rfl) (.tmp 37) (.tmp 38) (by rfl) (by rfl) X.heap.size (hE0 _ (by rfl)) (World.ownsRow.alloc (show World.ownsRow _ 0 5 1 _ _ _ from row_base HV.out (Nat.zero_le _)) _) hoc (by rfl) (by omega) (by simp) ?_; intro gC cC w5 hown5 hgr5 hat5; have hg5 : X.grownBy w5 (some X.heap.size) := gb_trans (by first | exact gb_drew (gb_alloc (gb_refl _ _) _) | exact gb_alloc (gb_drew (gb_refl _ _)) _) hgr5; have b5 := HB.out.kept hg5 (some_ne2 (by omega)); have m13 : w5.cell? ⟨lb, 1, none⟩ = some (.slice none 0 0) := b5.cell 1; have m13a := (fun o => gb_cellN (World.grownBy_alloc w5 o none) m13); have h5s := hg5.size) | (refine step_push TO (w5 := w5) (by rfl) (.tmp 36) (.tmp 40) (by rfl) w.heap.size (.slice none 0 0) 0 [] (by rfl) [.slice (some ⟨gC, 0, none⟩) (n + 40) cC] rfl (by simp [Value.oneCell']) (by rfl) (World.ownsRow_nil _ _ _ _) (by rfl) (by omega) (by omega) ?_; intro g7 c7 w7 hown7 hg7 hat7; have hg7' : w5.grownBy w7 none := hg7; have b7 := b5.kept hg7' (by simp); have m7 : w7.cell? ⟨lb, 1, none⟩ = some (.slice none 0 0) := b7.cell 1; have f7 : w7.frozen? ⟨lb, 1, none⟩ = false := b7.fz 1)))
      all_goals
        have hC := row_ge hown5 (j := gC) rfl
        have hV := row_ge HV.out (j := g) rfl
        have hW := row_ge HW.out (j := gl) rfl
        have h7g : w5.heap.size <= g7 := by
          rcases hat7 with e | e
          . simp [Value.ownBlock] at e
          . exact e
        have hgs : w7.grownBy (w7.setCell ⟨lb, 1, none⟩ (.slice (some ⟨g7, 0, none⟩) (0 + 1) c7)) (some lb) := gb_setCell (gb_refl _ _) _
        have kp : ∀ {e z m : Nat} {u : Value} {ys : List Value}, X.ownsRow w.heap.size e z u m ys -> e ≠ 68 -> (w7.setCell ⟨lb, 1, none⟩ (.slice (some ⟨g7, 0, none⟩) (0 + 1) c7)).ownsRow w.heap.size e z u m ys := fun hr he => by
          have r5 := row_kept hr hg5 (fun k hk e => by have := (row_ge hr hk).2; have := Option.some.inj e; omega)
          have r7 := row_kept r5 hg7' (by simp)
          exact row_kept r7 hgs (fun k hk e => row_box r7 b7 he k hk e)
        have hDl : (l ++ mk40).length = n + 40 := by simp [HN.out]
        have hpost : Lnt (w7.setCell ⟨lb, 1, none⟩ (.slice (some ⟨g7, 0, none⟩) (0 + 1) c7)) lb w.heap.size g c (l ++ mk40) /\ w.grownBy (w7.setCell ⟨lb, 1, none⟩ (.slice (some ⟨g7, 0, none⟩) (0 + 1) c7)) (some lb) := by
          refine ⟨⟨gl, cl, g7, c7, gC, cC, b7.set 1 _, ?_, ?_, ?_, ?_, by omega, by omega⟩, ?_⟩
          . rw [hDl]; exact kp HW.out (by decide)
          . rw [hDl]; exact row_kept hown7 hgs (fun k hk e => row_box hown7 b7 (by decide) k hk e)
          . rw [hDl]; exact kp HV.out (by decide)
          . rw [hDl]
            have r7 := row_kept (row_base hown5 hXs) hg7' (by simp)
            exact row_kept r7 hgs (fun k hk e => row_box r7 b7 (by decide) k hk e)
          . refine gb_trans HG.out (gb_trans ?_ hgs)
            exact gb_none _ (gb_trans (gb_mine (gb_refl X none) hg5 (Nat.le_refl _)) hg7')
        have HP : Hid _ := hpost
        clear hpost hown5 hown7 hgr5 hg5 hg7 hg7' b5 b7 m13 m13a HV HW HB HG hat5 hat7 hgs kp hDl hC hV hW
        go_wp2
        go_ret
        exact ⟨g, c, by rw [HN.out]; rfl, HP.out⟩
end Go.Proofs.YtobegepebochkaaGreatDoor
namespace Go.Proofs.YtobegepebochkaaGreatDoor
open Go.RowKit Go.Maps
theorem back_36 {w : World} {lb B g c : Nat} {D : Bs} (h : Lnt w lb B g c D) (hD : D.length <= 1000000) :
    Calls Tryz.prog 36 #[.pointer (some ⟨lb, 0, none⟩)] w fun e w' => e = .returned (.bool true) /\ Box w' 68 lb #[.slice none 0 0, .slice none 0 0, .slice none 0 0, .slice none 0 0] /\ Kp (fun k => k = lb \/ k = g) w w' := by
  obtain ⟨gl, cl, gw, cw, u, cu, hb, hl, hw, hg, hu, n1, n2⟩ := h
  have hlg : lb ≠ g := fun e => row_box hg hb (by decide) g rfl (by rw [e])
  have hgl : gl ≠ g := fun e => by
    obtain ⟨c1, h1⟩ := row_block hl gl rfl
    obtain ⟨c2, h2⟩ := row_block hg g rfl
    exact ne_of_type h1 h2 (by decide) e
  have hgk : c <= 9223372036854775807 /\ D.length <= c := by
    obtain ⟨a0, c0, q0, -, q1, q2, -⟩ := row_shape hg
    cases q0
    unfold maxLen at q2
    omega
  go_enter Tryz.func36, Tryz.ntmps36
  go_wp2
  go_loopw [3] (fun v wy => ∃ i : Nat, i <= 1 /\ v = .int .i64 i /\ World.grownBy w wy none) (fun v _ => 1 - (intOf v).toNat)
  case atStart => exact ⟨0, by omega, rfl, gb_refl _ _⟩
  case round =>
    obtain ⟨i, hi, rfl, hgr⟩ := hrel
    have hz := hb.kept hgr (by simp)
    have c0 : wr.cell? ⟨lb, 0, none⟩ = some (.slice (some ⟨gl, 0, none⟩) 1 cl) := hz.cell 0
    have c1 : wr.cell? ⟨lb, 1, none⟩ = some (.slice (some ⟨gw, 0, none⟩) 1 cw) := hz.cell 1
    by_cases hi0 : i < 1
    . obtain rfl : i = 0 := by omega
      have k1 := ck_own (X := fun _ => False) (row_kept hg hgr (by simp)) (fun _ _ h => h)
      have k2 := ck_own (X := fun _ => False) (row_kept hu hgr (by simp)) (fun _ _ h => h)
      have d1 : wr.cell? ⟨gl, 0, none⟩ = some (.slice (some ⟨g, 0, none⟩) D.length c) := row_cell (row_kept hl hgr (by simp)) 0 _ rfl
      have d2 : wr.cell? ⟨gw, 0, none⟩ = some (.slice (some ⟨u, 0, none⟩) D.length cu) := row_cell (row_kept hw hgr (by simp)) 0 _ rfl
      have q1 := fun q => Ck.conv (w := wr.drewN q) (show Ck (wr.drewN q) (fun _ => False) _ D from k1)
      have q2 := fun q => Ck.conv (w := wr.drewN q) (show Ck (wr.drewN q) (fun _ => False) _ D from k2)
      clear hz k1 k2 hb hl hw hg hu
      go_wp2
      go_quiet (fail)
      go_wp2
      exact ⟨⟨1, by omega, by go_num, gb_drewN hgr _⟩, by simp [intOf]⟩
    . obtain rfl : i = 1 := by omega
      have c2 : wr.cell? ⟨lb, 2, none⟩ = some (.slice none 0 0) := hz.cell 2
      have HZ : Hid _ := hz
      have HG : Hid (w.grownBy wr none) := hgr
      have HR : Hid (wr.ownsRow B 5 1 (.slice (some ⟨g, 0, none⟩) D.length c) D.length (D.map b8)) := row_kept hg hgr (by simp)
      have HL : Hid (wr.ownsRow B 38 1 (.slice (some ⟨gl, 0, none⟩) 1 cl) 1 [.slice (some ⟨g, 0, none⟩) D.length c]) := row_kept hl hgr (by simp)
      clear hz hgr hb hl hw hg hu c1
      go_wp2
      go_loopw [4] (fun v wq => v = .int .i64 0 /\ wq = wr) (fun _ _ => 0)
      case atStart => exact ⟨rfl, rfl⟩
      case round =>
        obtain ⟨rfl, hwq⟩ := hrel
        subst hwq
        go_wp2
        obtain ⟨wr0, hr0⟩ : ∃ w0, w0 = wr := ⟨wr, rfl⟩
        subst hr0
        go_loopw [5, 6] (fun v x6 wy => ∃ (i : Nat) (E : Bs), i <= 1 /\ v = .int .i64 i /\ E.length = D.length /\ wy.ownsRow B 5 1 (.slice (some ⟨g, 0, none⟩) D.length c) D.length (E.map b8) /\ wr0.grownBy wy (some g)) (fun v _ _ => 1 - (intOf v).toNat)
        case atStart => exact ⟨0, D, by omega, rfl, rfl, HR.out, gb_refl _ _⟩
        case round =>
          obtain ⟨i, E, hi, rfl, hE, hown, hgr⟩ := hrel
          have hz := Box.kept HZ.out hgr (some_ne2 hlg)
          have c0 : wr.cell? ⟨lb, 0, none⟩ = some (.slice (some ⟨gl, 0, none⟩) 1 cl) := hz.cell 0
          by_cases hi0 : i < 1
          . obtain rfl : i = 0 := by omega
            have HO : Hid (wr.ownsRow B 5 1 (.slice (some ⟨g, 0, none⟩) D.length c) D.length (E.map b8)) := hown
            have HGR : Hid (wr0.grownBy wr (some g)) := hgr
            clear hown hgr hz
            go_wp2
            go_loopw [6] (fun v wy => ∃ (k : Nat) (E : Bs), k <= D.length /\ v = .int .i64 k /\ E.length = D.length /\ wy.ownsRow B 5 1 (.slice (some ⟨g, 0, none⟩) D.length c) D.length (E.map b8) /\ wr0.grownBy wy (some g)) (fun v _ => D.length - (intOf v).toNat)
            case atStart => exact ⟨0, E, by omega, rfl, hE, HO.out, HGR.out⟩
            case round =>
              clear HO HGR hE c0
              obtain ⟨k, E', hk, rfl, hE', hown, hgr⟩ := hrel
              have hz := Box.kept HZ.out hgr (some_ne2 hlg)
              have c0 : wr.cell? ⟨lb, 0, none⟩ = some (.slice (some ⟨gl, 0, none⟩) 1 cl) := hz.cell 0
              have c2 : wr.cell? ⟨gl, 0, none⟩ = some (.slice (some ⟨g, 0, none⟩) D.length c) := row_cell (row_kept HL.out hgr (fun k hk e => by simp [Value.ownBlock] at hk; subst hk; exact hgl (Option.some.inj e))) 0 _ rfl
              by_cases hkD : k < D.length
              . have d1 : (k : Int) < (D.length : Int) := by omega
                have hck : wr.cell? ⟨g, k, none⟩ = some (b8 (E'.getD k 0)) := row_cell hown k _ (by rw [List.getElem?_map]; simp [List.getD, show k < E'.length by omega])
                have hfz := World.ownsRow.frozenAt hown k
                have HO : Hid ((wr.setCell ⟨g, k, none⟩ (b8 90)).ownsRow B 5 1 (.slice (some ⟨g, 0, none⟩) D.length c) D.length ((E'.set k 90).map b8)) := by
                  show World.ownsRow _ _ _ _ _ _ _
                  rw [List.map_set]
                  exact row_set hown k (b8 90)
                have HF : Hid (wr0.grownBy (wr.setCell ⟨g, k, none⟩ (b8 90)) (some g)) := gb_trans hgr (gb_setCell (gb_refl _ _) _)
                have HEl : Hid ((E'.set k 90).length = D.length) := by rw [<- hE']; exact List.length_set
                clear hown hgr hz hE'
                go_wp2_with fail
                go_roundw
                case rel => exact ⟨k + 1, E'.set k 90, by omega, by go_num, HEl.out, HO.out, HF.out⟩
                case measure => simp [intOf]; omega
              . obtain rfl : k = D.length := by omega
                have HO : Hid (wr.ownsRow B 5 1 (.slice (some ⟨g, 0, none⟩) D.length c) D.length (E'.map b8)) := hown
                have HGR : Hid (wr0.grownBy wr (some g)) := hgr
                have HEl : Hid (E'.length = D.length) := hE'
                clear hown hgr hz hE'
                go_wp2_with fail
                go_roundw
                case rel => exact ⟨1, E', by omega, by go_num, HEl.out, HO.out, HGR.out⟩
                case measure => simp [intOf]
          . obtain rfl : i = 1 := by omega
            have c2 : wr.cell? ⟨lb, 2, none⟩ = some (.slice none 0 0) := hz.cell 2
            have HGR : Hid (wr0.grownBy wr (some g)) := hgr
            have HZ2 : Hid _ := hz
            clear hown hgr hz hE
            go_wp2
            go_loopw [7] (fun v wq => v = .int .i64 0 /\ wq = wr) (fun _ _ => 0)
            case atStart => exact ⟨rfl, rfl⟩
            case round =>
              obtain ⟨rfl, hwq⟩ := hrel
              subst hwq
              have f0 := Box.fz HZ2.out 0
              have f1 := Box.fz HZ2.out 1
              have f2 := Box.fz HZ2.out 2
              have f3 := Box.fz HZ2.out 3
              have e1 : wr.cell? ⟨lb, 1, none⟩ = some (.slice (some ⟨gw, 0, none⟩) 1 cw) := Box.cell HZ2.out 1
              have e3 : wr.cell? ⟨lb, 3, none⟩ = some (.slice none 0 0) := Box.cell HZ2.out 3
              have HB : Hid (Box ((((wr.setCell ⟨lb, 0, none⟩ (.slice none 0 0)).setCell ⟨lb, 1, none⟩ (.slice none 0 0)).setCell ⟨lb, 2, none⟩ (.slice none 0 0)).setCell ⟨lb, 3, none⟩ (.slice none 0 0)) 68 lb #[.slice none 0 0, .slice none 0 0, .slice none 0 0, .slice none 0 0]) := Box.set (Box.set (Box.set (Box.set HZ2.out 0 _) 1 _) 2 _) 3 _
              have HK : Hid (Kp (fun k => k = lb \/ k = g) w ((((wr.setCell ⟨lb, 0, none⟩ (.slice none 0 0)).setCell ⟨lb, 1, none⟩ (.slice none 0 0)).setCell ⟨lb, 2, none⟩ (.slice none 0 0)).setCell ⟨lb, 3, none⟩ (.slice none 0 0))) :=
                ((Kp.of HG.out).step HGR.out (fun i hi => .inl (.inr (Option.some.inj hi).symm))).step (gb_setCell (gb_setCell (gb_setCell (gb_setCell (gb_refl _ (some lb)) _) _) _) _) (fun i hi => .inl (.inl (Option.some.inj hi).symm))
              clear HZ HZ2 HG HGR HR HL
              go_wp2
              go_ret
              exact ⟨rfl, HB.out, HK.out⟩
end Go.Proofs.YtobegepebochkaaGreatDoor
namespace Go.Proofs.YtobegepebochkaaGreatDoor
open Go.RowKit Go.Maps
def Stp.sh (k : Nat) (s : Stp) : Stp := ⟨s.cmd, s.data, s.large, s.wk, s.wt, s.wp, s.frm + k, s.to + k⟩
def Fd.sh (k : Nat) (F : Fd) : Fd := { F with taken := F.taken + k, frm := F.frm + k }
theorem fl_sh (L k : Nat) : fl L k = (fl L 0).sh k := by simp [fl, Fd.sh]
theorem sh_tk (k n : Nat) (F : Fd) : (F.sh k).tk n = (F.tk n).sh k := by simp [Fd.sh, Fd.tk]; omega
theorem sh_put (k : Nat) (l : Bs) (F : Fd) : (F.sh k).put l = (F.put l).sh k := rfl
theorem sh_spoil (k : Nat) (F : Fd) : (F.sh k).spoil = F.spoil.sh k := rfl
theorem sh_tell (k : Nat) (F : Fd) : (F.sh k).tell = (F.tell.1.sh k, F.tell.2.map (Stp.sh k)) := by
  simp [Fd.tell, Fd.sh, Stp.sh]
  constructor <;> rfl
theorem sh_skip (k : Nat) (F : Fd) (b : UInt8) : (F.sh k).skip b = ((F.skip b).1.sh k, (F.skip b).2.map (Stp.sh k)) := by
  unfold Fd.skip
  rw [show (F.sh k).left = F.left from rfl]
  split
  . rfl
  . split
    . exact sh_tell k F
    . rfl
theorem sh_rd (k : Nat) (F : Fd) : (F.sh k).rd = (F.rd.1.sh k, F.rd.2) := by
  unfold Fd.rd
  rw [show (F.sh k).kept = F.kept from rfl, show (F.sh k).limit = F.limit from rfl]
  split
  . split
    . rfl
    . split <;> rfl
  . split <;> rfl
theorem sh_end1 (k : Nat) (F : Fd) : Fd.end1 (F.sh k).rd = ((Fd.end1 F.rd).1.sh k, (Fd.end1 F.rd).2.map (Stp.sh k)) := by
  unfold Fd.end1
  rw [sh_rd]
  dsimp only
  split
  . exact sh_tell k _
  . rfl
theorem sh_fb (k : Nat) (F : Fd) (b : UInt8) : (F.sh k).fb b = ((F.fb b).1.sh k, (F.fb b).2.map (Stp.sh k)) := by
  unfold Fd.fb
  rw [show (F.sh k).st = F.st from rfl, show (F.sh k).kept = F.kept from rfl, show (F.sh k).left = F.left from rfl, sh_tk, sh_put]
  split
  . split
    . exact sh_end1 k _
    . split <;> rfl
  . split
    . rfl
    . split
      . split
        . rfl
        . rw [sh_spoil]; exact sh_skip k _ b
      . split
        . split
          . exact sh_tell k { F.tk 1 with s := { F.s with data := (F.kept.drop F.head).dropLast } }
          . rw [sh_spoil]; exact sh_skip k _ b
        . split
          . exact sh_skip k _ b
          . rfl
theorem sh_run (k : Nat) : ∀ (l : Bs) (F : Fd), (F.sh k).run l = ((F.run l).1.sh k, (F.run l).2.map (Stp.sh k))
  | [], F => rfl
  | b :: t, F => by
    simp only [Fd.run, sh_fb]
    rw [sh_run k t]
    simp
def Told (F G : Fd) (r : List Stp) : Prop := (r = [] /\ G.ended = false) \/ ∃ s, r = [s] /\ s.to = F.taken + 1 /\ (s.cmd.verb ≠ 18 -> G = fl F.limit (F.taken + 1)) /\ (s.cmd.verb = 18 -> G.st = 5 /\ G.ended = true /\ G.kept = [])
theorem told_tell {F G : Fd} (hl : G.limit = F.limit) (ht : G.taken = F.taken + 1) (he : G.ended = false) : Told F G.tell.1 G.tell.2 := by
  refine .inr ⟨_, rfl, ht, ?_, ?_⟩
  . intro hv
    have : ¬ G.s.cmd.verb = 18 := hv
    simp [Fd.tell, this, he, fl, hl, ht]
  . intro hv
    have : G.s.cmd.verb = 18 := hv
    simp [Fd.tell, this]
theorem told_skip {F G : Fd} (hl : G.limit = F.limit) (ht : G.taken = F.taken + 1) (he : G.ended = false) (b : UInt8) : Told F (G.skip b).1 (G.skip b).2 := by
  unfold Fd.skip
  split
  . exact .inl ⟨rfl, he⟩
  . split
    . exact told_tell hl ht he
    . exact .inl ⟨rfl, he⟩
theorem told_fb {F : Fd} (he : F.ended = false) (b : UInt8) : Told F (F.fb b).1 (F.fb b).2 := by
  unfold Fd.fb
  split
  . split
    . unfold Fd.end1
      obtain ⟨h1, h2, h3, -⟩ := rd_facts ((F.tk 1).put [b])
      split
      . exact told_tell h2 h1 (h3.trans he)
      . exact .inl ⟨rfl, h3.trans he⟩
    . split
      . exact .inl ⟨rfl, he⟩
      . exact .inl ⟨rfl, he⟩
  . split
    . exact .inl ⟨rfl, he⟩
    . split
      . split
        . exact .inl ⟨rfl, he⟩
        . exact told_skip (F := F) (G := (F.tk 1).spoil) rfl rfl he b
      . split
        . split
          . exact told_tell (F := F) (G := { F.tk 1 with s := { F.s with data := (F.kept.drop F.head).dropLast } }) rfl rfl he
          . exact told_skip (F := F) (G := (F.tk 1).spoil) rfl rfl he b
        . split
          . exact told_skip (F := F) (G := F.tk 1) rfl rfl he b
          . exact .inl ⟨rfl, he⟩
theorem run_split : ∀ (l : Bs) {F : Fd}, F.ended = false -> ∀ (pre : List Stp) (s : Stp) (post : List Stp), (F.run l).2 = pre ++ s :: post ->
    ∃ l1 l2 G, l = l1 ++ l2 /\ F.run l1 = (G, pre ++ [s]) /\ s.to = F.taken + l1.length /\ (s.cmd.verb ≠ 18 -> G = fl F.limit s.to) /\ (s.cmd.verb = 18 -> G.st = 5 /\ G.ended = true /\ G.kept = [])
  | [], F, he, pre, s, post, h => by simp [Fd.run] at h
  | b :: t, F, he, pre, s, post, h => by
    have hf := fb_facts F b
    simp only [Fd.run] at h
    rcases told_fb he b with ⟨h1, h2⟩ | ⟨x, h1, h2, h3, h4⟩
    . rw [h1, List.nil_append] at h
      obtain ⟨l1, l2, G, e, hr, ht, k1, k2⟩ := run_split t h2 pre s post h
      refine ⟨b :: l1, l2, G, by simp [e], by simp [Fd.run, h1, hr], ?_, ?_, k2⟩
      . rw [ht, hf.1]; simp; omega
      . rw [hf.2.1] at k1; exact k1
    . rw [h1] at h
      cases pre with
      | nil =>
        simp at h
        obtain ⟨rfl, -⟩ := h
        refine ⟨[b], t, (F.fb b).1, rfl, by simp [Fd.run, h1], by simpa using h2, fun hv => ?_, h4⟩
        rw [h2]; exact h3 hv
      | cons y pre =>
        simp at h
        obtain ⟨rfl, h⟩ := h
        by_cases hv : x.cmd.verb = 18
        . rw [run_over (h4 hv).1] at h
          simp at h
        . have hF := h3 hv
          obtain ⟨l1, l2, G, e, hr, ht, k1, k2⟩ := run_split t (F := (F.fb b).1) (by rw [hF]; rfl) pre s post h
          refine ⟨b :: l1, l2, G, by simp [e], by simp [Fd.run, h1, hr], ?_, ?_, k2⟩
          . rw [ht, hf.1]; simp; omega
          . rw [hf.2.1] at k1; exact k1
theorem run_none : ∀ (l : Bs) {F : Fd}, F.ended = false -> (F.run l).2 = [] -> (F.run l).1.ended = false
  | [], F, he, h => he
  | b :: t, F, he, h => by
    simp only [Fd.run] at h ⊢
    rcases told_fb he b with ⟨h1, h2⟩ | ⟨x, h1, h2, h3, h4⟩
    . rw [h1, List.nil_append] at h
      exact run_none t h2 h
    . rw [h1] at h
      simp at h
theorem Tile.get : ∀ {q : List Tld} {a b : Nat} (k : Nat) {x : Tld}, Tile a q b -> q[k]? = some x -> ∃ m, Tile a (q.take k) m /\ x.s.frm = m /\ m < x.s.to /\ Tile x.s.to (q.drop (k + 1)) b
  | [], a, b, k, x, h, hx => by simp at hx
  | y :: q, a, b, 0, x, h, hx => by
    simp at hx
    subst hx
    exact ⟨a, rfl, h.1, h.2.1, h.2.2⟩
  | y :: q, a, b, k + 1, x, h, hx => by
    simp at hx
    obtain ⟨m, h1, h2, h3, h4⟩ := Tile.get k h.2.2 hx
    exact ⟨m, ⟨h.1, h.2.1, h1⟩, h2, h3, h4⟩
end Go.Proofs.YtobegepebochkaaGreatDoor
