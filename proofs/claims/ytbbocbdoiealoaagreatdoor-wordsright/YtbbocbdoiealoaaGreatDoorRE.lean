import Derived.Test.YtbbocbdoiealoaaGreatDoorRD
set_option linter.unusedVariables false
set_option linter.unusedSimpArgs false
namespace Go.Proofs.YtbbocbdoiealoaaGreatDoor
open Go.RowKit
def Sn (w : World) (b : Nat) (S : Bs) : Prop := ∃ vs, Box w 135 b vs ∧ vs.size = 256 ∧ ∀ i : UInt8, vs[i.toNat]? = some (.bool (S.contains i))
theorem Sn.new (w : World) : Sn (w.alloc (.cells Tryz.zeroCells135 135)) w.heap.size [] := by
  have e : Tryz.zeroCells135 = Array.replicate 256 (.bool false) := by kernel_rfl
  refine ⟨_, Box.new _ _ _, by rw [e]; simp, fun i => ?_⟩
  have h := UInt8.toNat_lt i
  rw [e, Array.getElem?_replicate, if_pos (by omega)]; rfl
theorem Sn.kept {w w' : World} {b : Nat} {S : Bs} (h : Sn w b S) (hf : w.grownBy w' none) : Sn w' b S := by
  obtain ⟨vs, h1, h2, h3⟩ := h
  exact ⟨vs, h1.kept hf (by simp), h2, h3⟩
theorem Sn.cell {w : World} {b : Nat} {S : Bs} (h : Sn w b S) (i : UInt8) : w.cell? ⟨b, i.toNat, none⟩ = some (.bool (S.contains i)) := by
  obtain ⟨vs, h1, h2, h3⟩ := h
  rw [h1.cell, h3]
theorem Sn.fz {w : World} {b : Nat} {S : Bs} (h : Sn w b S) (i : Nat) : w.frozen? ⟨b, i, none⟩ = false := by
  obtain ⟨vs, h1, h2, h3⟩ := h
  exact h1.fz i
theorem Sn.set {w : World} {b : Nat} {S : Bs} (h : Sn w b S) (i : UInt8) : Sn (w.setCell ⟨b, i.toNat, none⟩ (.bool true)) b (i :: S) := by
  obtain ⟨vs, h1, h2, h3⟩ := h
  refine ⟨_, h1.set _ _, by simp [h2], fun j => ?_⟩
  have hi := UInt8.toNat_lt i
  rw [Array.getElem?_setIfInBounds]
  by_cases e : i.toNat = j.toNat
  · have e' : i = j := UInt8.toNat_inj.1 e
    subst e'
    simp [h2]
    omega
  · have e' : ¬ j = i := fun h => e (by rw [h])
    rw [if_neg e, h3, List.contains_cons, show (j == i) = false from beq_eq_false_iff_ne.2 e', Bool.false_or]
def Fs (w : World) (v : Value) (fs : List Fl) : Prop := (fs = [] ∧ ∃ a c, v = .slice a 0 c) ∨ ∃ g c, v = .slice (some ⟨g, 0, none⟩) fs.length c ∧ ∀ i f, fs[i]? = some f →
  w.cell? ⟨g, i * 3, none⟩ = some (.int .u8 f.letter.toNat) ∧ w.cell? ⟨g, i * 3 + 1, none⟩ = some (sv f.arg) ∧ w.cell? ⟨g, i * 3 + 2, none⟩ = some (.bool f.has)
set_option maxHeartbeats 2000000 in
theorem flags_nil (v : Int) (a : Option Addr) (c : Nat) (w : World) :
    Calls Tryz.prog 39 #[.int .i64 v, .slice a 0 c] w fun e w' => e = .returned (sv []) ∧ w.grownBy w' none := by
  go_enter Tryz.func39, Tryz.ntmps39
  go_wp2_with (go_at_call 88; refine (letters_47 _ _).mono ?_; rintro e w' ⟨rfl, rfl⟩)
  go_loopw [17] (fun x wr => x = .int .i64 0 ∧ wr = w'.alloc (.cells Tryz.zeroCells135 135)) (fun _ _ => 0)
  case atStart => exact ⟨rfl, rfl⟩
  case round =>
    obtain ⟨rfl, rfl⟩ := hrel
    go_wp2
    go_ret
    exact ⟨rfl, gb_alloc (gb_refl _ _) _⟩
set_option maxRecDepth 100000 in
set_option maxHeartbeats 4000000 in
theorem flags_34 (v : Int) (sl : Value) (fs : List Fl) (hfl : ∀ f ∈ fs, f.arg.length ≤ 1099511627776) (hn : fs.length ≤ 1099511627776) (w : World) (hE : Er w) (hF : Fs w sl fs) :
    Calls Tryz.prog 39 #[.int .i64 v, sl] w fun e w' => e = .returned (sv (flS v [] fs)) ∧ w.grownBy w' none := by
  rcases hF with ⟨rfl, a, c, rfl⟩ | ⟨g, c, rfl, hF⟩
  · exact flags_nil v a c w
  go_enter Tryz.func39, Tryz.ntmps39
  go_wp2_with (go_at_call 88; refine (letters_47 _ _).mono ?_; rintro e w' ⟨rfl, rfl⟩)
  go_loopw [17] (fun x wr => ∃ k : Nat, k ≤ fs.length ∧ x = .int .i64 k ∧ w'.grownBy wr none ∧ ∃ S, Sn wr w'.heap.size S ∧ flS v [] fs = flS v S (fs.drop k)) (fun x _ => fs.length - (intOf x).toNat)
  case atStart => exact ⟨0, by omega, rfl, gb_alloc (gb_refl _ _) _, [], Sn.new _, rfl⟩
  case round =>
    obtain ⟨k, hk, rfl, hg, S, hS, hfl'⟩ := hrel
    have hlt : k < fs.length ∨ k = fs.length := by omega
    rcases hlt with hlt | rfl
    · obtain ⟨f, hf⟩ : ∃ f, fs[k]? = some f := ⟨_, List.getElem?_eq_getElem hlt⟩
      have hfm : f ∈ fs := List.mem_of_getElem? hf
      have hdr : fs.drop k = f :: fs.drop (k + 1) := by
        have := List.drop_eq_getElem_cons hlt
        rw [List.getElem?_eq_getElem hlt] at hf
        injection hf with hf
        rw [this, hf]
      rw [hdr] at hfl'
      obtain ⟨la, ar, hs⟩ := f
      simp only [flS] at hfl'
      obtain ⟨c0, c1, c2⟩ := hF k _ hf
      have c0 := gb_cellN hg c0
      have c1 := gb_cellN hg c1
      have c2 := gb_cellN hg c2
      have d1 : decide ((k : Int) < (fs.length : Int)) = true := decide_eq_true (by omega)
      have hErr := hE.kept hg
      have hb := fun W => has_48 (bare v) la W
      have hu := fun W => has_48 (full v) la W
      have hlA := hfl _ hfm
      have hfo := fun W (hW : Er W) => follows_49 v ⟨la, ar, hs⟩ hlA W hW
      have hgA : wr.grownBy (wr.alloc (Obj.cells #[.int .u8 la.toNat, .string ⟨ar.toArray⟩, .bool hs] 79)) none := gb_alloc (gb_refl _ _) _
      have hSA := hS.kept hgA
      have cS := hSA.cell la
      have HE : Hid (fl1 v S ⟨la, ar, hs⟩ = if !(bare v).contains la && !(full v).contains la then noFlag else if S.contains la then twice else
        if la = 79 ∧ (ar = [] ∨ 32 < ar.length) then badOpaque else if hs ≠ decide (ar ≠ []) ∨ hs ≠ (full v).contains la ∨ (hs = true ∧ follows v ⟨la, ar, hs⟩ = false) then badToken else []) := rfl
      obtain ⟨p1, e1⟩ : ∃ p, (bare v).contains la = p := ⟨_, rfl⟩
      obtain ⟨p2, e2⟩ : ∃ p, (full v).contains la = p := ⟨_, rfl⟩
      obtain ⟨p3, e3⟩ : ∃ p, S.contains la = p := ⟨_, rfl⟩
      obtain ⟨p4, e4⟩ : ∃ p, follows v ⟨la, ar, hs⟩ = p := ⟨_, rfl⟩
      obtain ⟨fl, e5⟩ : ∃ p, fl1 v S ⟨la, ar, hs⟩ = p := ⟨_, rfl⟩
      rw [e1] at hb HE
      rw [e2] at hu HE
      rw [e3] at cS HE
      rw [e4] at HE
      rw [e5] at hfl' HE
      simp only [e4] at hfo
      have HFL := Lib.hid hfl'
      have hfz := hSA.fz la.toNat
      clear hfl' hf hdr hF hE e1 e2 e3 e4 e5 hfm hfl
      have h256 : (la.toNat : Int) < 256 := by have := UInt8.toNat_lt la; omega
      rcases Bool.eq_false_or_eq_true p1 with rfl | rfl
      · skip
        rcases Bool.eq_false_or_eq_true p3 with rfl | rfl
        · skip
          go_wp2_with (first | (go_at_call 89; with_reducible refine (hb _).mono ?_; rintro e w2 ⟨rfl, rfl⟩) | (go_at_call 89; with_reducible refine (hu _).mono ?_; rintro e w2 ⟨rfl, rfl⟩))
          go_ret
          refine ⟨congrArg (fun b => Ending.returned (sv b)) (Eq.trans ?_ HFL.out.symm), gb_trans hg (by first | exact hgA | exact gb_drewN hgA _ | exact hg4)⟩
          have hE := HE.out
          rw [show fl = twice from by (try have hla := HLA.out); rw [HE.out]; simp [*]]; rfl
        · by_cases hla : la = 79
          · have hl1 : ((la.toNat : Int) == 79) = true := by rw [hla]; rfl
            have HLA := Lib.hid hla
            clear hla
            rcases Nat.eq_zero_or_pos ar.length with h0 | h0
            · have h1 : ar = [] := List.length_eq_zero_iff.1 h0
              subst h1
              go_wp2_with (first | (go_at_call 89; with_reducible refine (hb _).mono ?_; rintro e w2 ⟨rfl, rfl⟩) | (go_at_call 89; with_reducible refine (hu _).mono ?_; rintro e w2 ⟨rfl, rfl⟩))
              go_ret
              refine ⟨congrArg (fun b => Ending.returned (sv b)) (Eq.trans ?_ HFL.out.symm), gb_trans hg (by first | exact hgA | exact gb_drewN hgA _ | exact hg4)⟩
              have hE := HE.out
              rw [show fl = badOpaque from by (try have hla := HLA.out); rw [HE.out]; simp [*]]; rfl
            · have h1 : ar ≠ [] := List.length_pos_iff.1 h0
              have h1b : ar.isEmpty = false := by simpa using h1
              rcases Nat.lt_or_ge 32 ar.length with h2 | h2
              · have h2b : decide (32 < (ar.length : Int)) = true := decide_eq_true (by omega)
                go_wp2_with (first | (go_at_call 89; with_reducible refine (hb _).mono ?_; rintro e w2 ⟨rfl, rfl⟩) | (go_at_call 89; with_reducible refine (hu _).mono ?_; rintro e w2 ⟨rfl, rfl⟩))
                go_ret
                refine ⟨congrArg (fun b => Ending.returned (sv b)) (Eq.trans ?_ HFL.out.symm), gb_trans hg (by first | exact hgA | exact gb_drewN hgA _ | exact hg4)⟩
                have hE := HE.out
                rw [show fl = badOpaque from by (try have hla := HLA.out); rw [HE.out]; simp [*]]; rfl
              · have h2b : decide (32 < (ar.length : Int)) = false := decide_eq_false (by omega)
                have h2c : ¬ 32 < ar.length := by omega
                rcases Bool.eq_false_or_eq_true hs with rfl | rfl
                · skip
                  rcases Bool.eq_false_or_eq_true p2 with rfl | rfl
                  · skip
                    rcases Bool.eq_false_or_eq_true p4 with rfl | rfl
                    · skip
                      go_wp2_with (first | (go_at_call 89; with_reducible refine (hb _).mono ?_; rintro e w2 ⟨rfl, rfl⟩) | (go_at_call 89; with_reducible refine (hu _).mono ?_; rintro e w2 ⟨rfl, rfl⟩))
                      go_quiet ((go_at_call 89; with_reducible exact Calls.quiet_of_same (hu _)))
                      have hg2 := gb_drewN hgA nq
                      have hS2 := hS.kept hg2
                      have hE2 := hErr.kept hg2
                      go_wp2_with (go_at_call 90; with_reducible refine (hfo _ hE2).mono ?_; rintro e w3 ⟨rfl, hg3⟩; (have hg4 := gb_trans hg2 hg3); (have b0 := gb_cellN hg3 (x := ⟨wr.heap.size, 0, none⟩) (v := .int .u8 la.toNat) (by simp [go_sem])); (have hS4 := hS2.kept hg3); (have hf4 := hS4.fz la.toNat); (have cS4 := hS4.cell la))
                      refine ⟨⟨k + 1, by omega, by simp, ?_, la :: S, ?_, ?_⟩, by simp [intOf]; omega⟩
                      · exact gb_mine (gb_trans hg hg4) (gb_setCell (gb_refl _ _) _) (Nat.le_refl _)
                      · exact Sn.set hS4 la
                      · rw [HFL.out, show fl = [] from by (try have hla := HLA.out); rw [HE.out]; simp [*]]; rfl
                    · skip
                      go_wp2_with (first | (go_at_call 89; with_reducible refine (hb _).mono ?_; rintro e w2 ⟨rfl, rfl⟩) | (go_at_call 89; with_reducible refine (hu _).mono ?_; rintro e w2 ⟨rfl, rfl⟩))
                      go_quiet ((go_at_call 89; with_reducible exact Calls.quiet_of_same (hu _)))
                      have hg2 := gb_drewN hgA nq
                      have hS2 := hS.kept hg2
                      have hE2 := hErr.kept hg2
                      go_wp2_with (go_at_call 90; with_reducible refine (hfo _ hE2).mono ?_; rintro e w3 ⟨rfl, hg3⟩; (have hg4 := gb_trans hg2 hg3); (have b0 := gb_cellN hg3 (x := ⟨wr.heap.size, 0, none⟩) (v := .int .u8 la.toNat) (by simp [go_sem])); (have hS4 := hS2.kept hg3); (have hf4 := hS4.fz la.toNat); (have cS4 := hS4.cell la))
                      go_ret
                      refine ⟨congrArg (fun b => Ending.returned (sv b)) (Eq.trans ?_ HFL.out.symm), gb_trans hg hg4⟩
                      rw [show fl = badToken from by (try have hla := HLA.out); rw [HE.out]; simp [*]]; rfl
                  · skip
                    go_wp2_with (first | (go_at_call 89; with_reducible refine (hb _).mono ?_; rintro e w2 ⟨rfl, rfl⟩) | (go_at_call 89; with_reducible refine (hu _).mono ?_; rintro e w2 ⟨rfl, rfl⟩))
                    go_quiet ((go_at_call 89; with_reducible exact Calls.quiet_of_same (hu _)))
                    go_wp2
                    go_ret
                    refine ⟨congrArg (fun b => Ending.returned (sv b)) (Eq.trans ?_ HFL.out.symm), gb_trans hg (by first | exact hgA | exact gb_drewN hgA _ | exact hg4)⟩
                    have hE := HE.out
                    rw [show fl = badToken from by (try have hla := HLA.out); rw [HE.out]; simp [*]]; rfl
                · skip
                  go_wp2_with (first | (go_at_call 89; with_reducible refine (hb _).mono ?_; rintro e w2 ⟨rfl, rfl⟩) | (go_at_call 89; with_reducible refine (hu _).mono ?_; rintro e w2 ⟨rfl, rfl⟩))
                  go_ret
                  refine ⟨congrArg (fun b => Ending.returned (sv b)) (Eq.trans ?_ HFL.out.symm), gb_trans hg (by first | exact hgA | exact gb_drewN hgA _ | exact hg4)⟩
                  have hE := HE.out
                  rw [show fl = badToken from by (try have hla := HLA.out); rw [HE.out]; simp [*]]; rfl
          · have hl1 : ((la.toNat : Int) == 79) = false := by rw [beq_eq_false_iff_ne]; intro e; exact hla (by rw [u8i]; exact e)
            rcases Nat.eq_zero_or_pos ar.length with h0 | h0
            · have h1 : ar = [] := List.length_eq_zero_iff.1 h0
              subst h1
              rcases Bool.eq_false_or_eq_true hs with rfl | rfl
              · skip
                go_wp2_with (first | (go_at_call 89; with_reducible refine (hb _).mono ?_; rintro e w2 ⟨rfl, rfl⟩) | (go_at_call 89; with_reducible refine (hu _).mono ?_; rintro e w2 ⟨rfl, rfl⟩))
                go_ret
                refine ⟨congrArg (fun b => Ending.returned (sv b)) (Eq.trans ?_ HFL.out.symm), gb_trans hg (by first | exact hgA | exact gb_drewN hgA _ | exact hg4)⟩
                have hE := HE.out
                rw [show fl = badToken from by (try have hla := HLA.out); rw [HE.out]; simp [*]]; rfl
              · skip
                rcases Bool.eq_false_or_eq_true p2 with rfl | rfl
                · skip
                  go_wp2_with (first | (go_at_call 89; with_reducible refine (hb _).mono ?_; rintro e w2 ⟨rfl, rfl⟩) | (go_at_call 89; with_reducible refine (hu _).mono ?_; rintro e w2 ⟨rfl, rfl⟩))
                  go_quiet ((go_at_call 89; with_reducible exact Calls.quiet_of_same (hu _)))
                  go_wp2
                  go_ret
                  refine ⟨congrArg (fun b => Ending.returned (sv b)) (Eq.trans ?_ HFL.out.symm), gb_trans hg (by first | exact hgA | exact gb_drewN hgA _ | exact hg4)⟩
                  have hE := HE.out
                  rw [show fl = badToken from by (try have hla := HLA.out); rw [HE.out]; simp [*]]; rfl
                · skip
                  go_wp2_with (first | (go_at_call 89; with_reducible refine (hb _).mono ?_; rintro e w2 ⟨rfl, rfl⟩) | (go_at_call 89; with_reducible refine (hu _).mono ?_; rintro e w2 ⟨rfl, rfl⟩))
                  go_quiet ((go_at_call 89; with_reducible exact Calls.quiet_of_same (hu _)))
                  go_wp2
                  refine ⟨⟨k + 1, by omega, by simp, ?_, la :: S, ?_, ?_⟩, by simp [intOf]; omega⟩
                  · exact gb_mine (gb_trans hg (gb_drewN hgA _)) (gb_setCell (gb_refl _ _) _) (Nat.le_refl _)
                  · exact Sn.set (hS.kept (gb_drewN hgA _)) la
                  · rw [HFL.out, show fl = [] from by (try have hla := HLA.out); rw [HE.out]; simp [*]]; rfl
            · have h1 : ar ≠ [] := List.length_pos_iff.1 h0
              have h1b : ar.isEmpty = false := by simpa using h1
              rcases Bool.eq_false_or_eq_true hs with rfl | rfl
              · skip
                rcases Bool.eq_false_or_eq_true p2 with rfl | rfl
                · skip
                  rcases Bool.eq_false_or_eq_true p4 with rfl | rfl
                  · skip
                    go_wp2_with (first | (go_at_call 89; with_reducible refine (hb _).mono ?_; rintro e w2 ⟨rfl, rfl⟩) | (go_at_call 89; with_reducible refine (hu _).mono ?_; rintro e w2 ⟨rfl, rfl⟩))
                    go_quiet ((go_at_call 89; with_reducible exact Calls.quiet_of_same (hu _)))
                    have hg2 := gb_drewN hgA nq
                    have hS2 := hS.kept hg2
                    have hE2 := hErr.kept hg2
                    go_wp2_with (go_at_call 90; with_reducible refine (hfo _ hE2).mono ?_; rintro e w3 ⟨rfl, hg3⟩; (have hg4 := gb_trans hg2 hg3); (have b0 := gb_cellN hg3 (x := ⟨wr.heap.size, 0, none⟩) (v := .int .u8 la.toNat) (by simp [go_sem])); (have hS4 := hS2.kept hg3); (have hf4 := hS4.fz la.toNat); (have cS4 := hS4.cell la))
                    refine ⟨⟨k + 1, by omega, by simp, ?_, la :: S, ?_, ?_⟩, by simp [intOf]; omega⟩
                    · exact gb_mine (gb_trans hg hg4) (gb_setCell (gb_refl _ _) _) (Nat.le_refl _)
                    · exact Sn.set hS4 la
                    · rw [HFL.out, show fl = [] from by (try have hla := HLA.out); rw [HE.out]; simp [*]]; rfl
                  · skip
                    go_wp2_with (first | (go_at_call 89; with_reducible refine (hb _).mono ?_; rintro e w2 ⟨rfl, rfl⟩) | (go_at_call 89; with_reducible refine (hu _).mono ?_; rintro e w2 ⟨rfl, rfl⟩))
                    go_quiet ((go_at_call 89; with_reducible exact Calls.quiet_of_same (hu _)))
                    have hg2 := gb_drewN hgA nq
                    have hS2 := hS.kept hg2
                    have hE2 := hErr.kept hg2
                    go_wp2_with (go_at_call 90; with_reducible refine (hfo _ hE2).mono ?_; rintro e w3 ⟨rfl, hg3⟩; (have hg4 := gb_trans hg2 hg3); (have b0 := gb_cellN hg3 (x := ⟨wr.heap.size, 0, none⟩) (v := .int .u8 la.toNat) (by simp [go_sem])); (have hS4 := hS2.kept hg3); (have hf4 := hS4.fz la.toNat); (have cS4 := hS4.cell la))
                    go_ret
                    refine ⟨congrArg (fun b => Ending.returned (sv b)) (Eq.trans ?_ HFL.out.symm), gb_trans hg hg4⟩
                    rw [show fl = badToken from by (try have hla := HLA.out); rw [HE.out]; simp [*]]; rfl
                · skip
                  go_wp2_with (first | (go_at_call 89; with_reducible refine (hb _).mono ?_; rintro e w2 ⟨rfl, rfl⟩) | (go_at_call 89; with_reducible refine (hu _).mono ?_; rintro e w2 ⟨rfl, rfl⟩))
                  go_quiet ((go_at_call 89; with_reducible exact Calls.quiet_of_same (hu _)))
                  go_wp2
                  go_ret
                  refine ⟨congrArg (fun b => Ending.returned (sv b)) (Eq.trans ?_ HFL.out.symm), gb_trans hg (by first | exact hgA | exact gb_drewN hgA _ | exact hg4)⟩
                  have hE := HE.out
                  rw [show fl = badToken from by (try have hla := HLA.out); rw [HE.out]; simp [*]]; rfl
              · skip
                go_wp2_with (first | (go_at_call 89; with_reducible refine (hb _).mono ?_; rintro e w2 ⟨rfl, rfl⟩) | (go_at_call 89; with_reducible refine (hu _).mono ?_; rintro e w2 ⟨rfl, rfl⟩))
                go_ret
                refine ⟨congrArg (fun b => Ending.returned (sv b)) (Eq.trans ?_ HFL.out.symm), gb_trans hg (by first | exact hgA | exact gb_drewN hgA _ | exact hg4)⟩
                have hE := HE.out
                rw [show fl = badToken from by (try have hla := HLA.out); rw [HE.out]; simp [*]]; rfl
      · rcases Bool.eq_false_or_eq_true p2 with rfl | rfl
        · skip
          rcases Bool.eq_false_or_eq_true p3 with rfl | rfl
          · skip
            go_wp2_with (first | (go_at_call 89; with_reducible refine (hb _).mono ?_; rintro e w2 ⟨rfl, rfl⟩) | (go_at_call 89; with_reducible refine (hu _).mono ?_; rintro e w2 ⟨rfl, rfl⟩))
            go_ret
            refine ⟨congrArg (fun b => Ending.returned (sv b)) (Eq.trans ?_ HFL.out.symm), gb_trans hg (by first | exact hgA | exact gb_drewN hgA _ | exact hg4)⟩
            have hE := HE.out
            rw [show fl = twice from by (try have hla := HLA.out); rw [HE.out]; simp [*]]; rfl
          · by_cases hla : la = 79
            · have hl1 : ((la.toNat : Int) == 79) = true := by rw [hla]; rfl
              have HLA := Lib.hid hla
              clear hla
              rcases Nat.eq_zero_or_pos ar.length with h0 | h0
              · have h1 : ar = [] := List.length_eq_zero_iff.1 h0
                subst h1
                go_wp2_with (first | (go_at_call 89; with_reducible refine (hb _).mono ?_; rintro e w2 ⟨rfl, rfl⟩) | (go_at_call 89; with_reducible refine (hu _).mono ?_; rintro e w2 ⟨rfl, rfl⟩))
                go_ret
                refine ⟨congrArg (fun b => Ending.returned (sv b)) (Eq.trans ?_ HFL.out.symm), gb_trans hg (by first | exact hgA | exact gb_drewN hgA _ | exact hg4)⟩
                have hE := HE.out
                rw [show fl = badOpaque from by (try have hla := HLA.out); rw [HE.out]; simp [*]]; rfl
              · have h1 : ar ≠ [] := List.length_pos_iff.1 h0
                have h1b : ar.isEmpty = false := by simpa using h1
                rcases Nat.lt_or_ge 32 ar.length with h2 | h2
                · have h2b : decide (32 < (ar.length : Int)) = true := decide_eq_true (by omega)
                  go_wp2_with (first | (go_at_call 89; with_reducible refine (hb _).mono ?_; rintro e w2 ⟨rfl, rfl⟩) | (go_at_call 89; with_reducible refine (hu _).mono ?_; rintro e w2 ⟨rfl, rfl⟩))
                  go_ret
                  refine ⟨congrArg (fun b => Ending.returned (sv b)) (Eq.trans ?_ HFL.out.symm), gb_trans hg (by first | exact hgA | exact gb_drewN hgA _ | exact hg4)⟩
                  have hE := HE.out
                  rw [show fl = badOpaque from by (try have hla := HLA.out); rw [HE.out]; simp [*]]; rfl
                · have h2b : decide (32 < (ar.length : Int)) = false := decide_eq_false (by omega)
                  have h2c : ¬ 32 < ar.length := by omega
                  rcases Bool.eq_false_or_eq_true hs with rfl | rfl
                  · skip
                    rcases Bool.eq_false_or_eq_true p4 with rfl | rfl
                    · skip
                      go_wp2_with (first | (go_at_call 89; with_reducible refine (hb _).mono ?_; rintro e w2 ⟨rfl, rfl⟩) | (go_at_call 89; with_reducible refine (hu _).mono ?_; rintro e w2 ⟨rfl, rfl⟩))
                      go_quiet ((go_at_call 89; with_reducible exact Calls.quiet_of_same (hu _)))
                      have hg2 := gb_drewN hgA nq
                      have hS2 := hS.kept hg2
                      have hE2 := hErr.kept hg2
                      go_wp2_with (go_at_call 90; with_reducible refine (hfo _ hE2).mono ?_; rintro e w3 ⟨rfl, hg3⟩; (have hg4 := gb_trans hg2 hg3); (have b0 := gb_cellN hg3 (x := ⟨wr.heap.size, 0, none⟩) (v := .int .u8 la.toNat) (by simp [go_sem])); (have hS4 := hS2.kept hg3); (have hf4 := hS4.fz la.toNat); (have cS4 := hS4.cell la))
                      refine ⟨⟨k + 1, by omega, by simp, ?_, la :: S, ?_, ?_⟩, by simp [intOf]; omega⟩
                      · exact gb_mine (gb_trans hg hg4) (gb_setCell (gb_refl _ _) _) (Nat.le_refl _)
                      · exact Sn.set hS4 la
                      · rw [HFL.out, show fl = [] from by (try have hla := HLA.out); rw [HE.out]; simp [*]]; rfl
                    · skip
                      go_wp2_with (first | (go_at_call 89; with_reducible refine (hb _).mono ?_; rintro e w2 ⟨rfl, rfl⟩) | (go_at_call 89; with_reducible refine (hu _).mono ?_; rintro e w2 ⟨rfl, rfl⟩))
                      go_quiet ((go_at_call 89; with_reducible exact Calls.quiet_of_same (hu _)))
                      have hg2 := gb_drewN hgA nq
                      have hS2 := hS.kept hg2
                      have hE2 := hErr.kept hg2
                      go_wp2_with (go_at_call 90; with_reducible refine (hfo _ hE2).mono ?_; rintro e w3 ⟨rfl, hg3⟩; (have hg4 := gb_trans hg2 hg3); (have b0 := gb_cellN hg3 (x := ⟨wr.heap.size, 0, none⟩) (v := .int .u8 la.toNat) (by simp [go_sem])); (have hS4 := hS2.kept hg3); (have hf4 := hS4.fz la.toNat); (have cS4 := hS4.cell la))
                      go_ret
                      refine ⟨congrArg (fun b => Ending.returned (sv b)) (Eq.trans ?_ HFL.out.symm), gb_trans hg hg4⟩
                      rw [show fl = badToken from by (try have hla := HLA.out); rw [HE.out]; simp [*]]; rfl
                  · skip
                    go_wp2_with (first | (go_at_call 89; with_reducible refine (hb _).mono ?_; rintro e w2 ⟨rfl, rfl⟩) | (go_at_call 89; with_reducible refine (hu _).mono ?_; rintro e w2 ⟨rfl, rfl⟩))
                    go_ret
                    refine ⟨congrArg (fun b => Ending.returned (sv b)) (Eq.trans ?_ HFL.out.symm), gb_trans hg (by first | exact hgA | exact gb_drewN hgA _ | exact hg4)⟩
                    have hE := HE.out
                    rw [show fl = badToken from by (try have hla := HLA.out); rw [HE.out]; simp [*]]; rfl
            · have hl1 : ((la.toNat : Int) == 79) = false := by rw [beq_eq_false_iff_ne]; intro e; exact hla (by rw [u8i]; exact e)
              rcases Nat.eq_zero_or_pos ar.length with h0 | h0
              · have h1 : ar = [] := List.length_eq_zero_iff.1 h0
                subst h1
                rcases Bool.eq_false_or_eq_true hs with rfl | rfl
                · skip
                  go_wp2_with (first | (go_at_call 89; with_reducible refine (hb _).mono ?_; rintro e w2 ⟨rfl, rfl⟩) | (go_at_call 89; with_reducible refine (hu _).mono ?_; rintro e w2 ⟨rfl, rfl⟩))
                  go_ret
                  refine ⟨congrArg (fun b => Ending.returned (sv b)) (Eq.trans ?_ HFL.out.symm), gb_trans hg (by first | exact hgA | exact gb_drewN hgA _ | exact hg4)⟩
                  have hE := HE.out
                  rw [show fl = badToken from by (try have hla := HLA.out); rw [HE.out]; simp [*]]; rfl
                · skip
                  go_wp2_with (first | (go_at_call 89; with_reducible refine (hb _).mono ?_; rintro e w2 ⟨rfl, rfl⟩) | (go_at_call 89; with_reducible refine (hu _).mono ?_; rintro e w2 ⟨rfl, rfl⟩))
                  go_quiet ((go_at_call 89; with_reducible exact Calls.quiet_of_same (hu _)))
                  go_wp2
                  go_ret
                  refine ⟨congrArg (fun b => Ending.returned (sv b)) (Eq.trans ?_ HFL.out.symm), gb_trans hg (by first | exact hgA | exact gb_drewN hgA _ | exact hg4)⟩
                  have hE := HE.out
                  rw [show fl = badToken from by (try have hla := HLA.out); rw [HE.out]; simp [*]]; rfl
              · have h1 : ar ≠ [] := List.length_pos_iff.1 h0
                have h1b : ar.isEmpty = false := by simpa using h1
                rcases Bool.eq_false_or_eq_true hs with rfl | rfl
                · skip
                  rcases Bool.eq_false_or_eq_true p4 with rfl | rfl
                  · skip
                    go_wp2_with (first | (go_at_call 89; with_reducible refine (hb _).mono ?_; rintro e w2 ⟨rfl, rfl⟩) | (go_at_call 89; with_reducible refine (hu _).mono ?_; rintro e w2 ⟨rfl, rfl⟩))
                    go_quiet ((go_at_call 89; with_reducible exact Calls.quiet_of_same (hu _)))
                    have hg2 := gb_drewN hgA nq
                    have hS2 := hS.kept hg2
                    have hE2 := hErr.kept hg2
                    go_wp2_with (go_at_call 90; with_reducible refine (hfo _ hE2).mono ?_; rintro e w3 ⟨rfl, hg3⟩; (have hg4 := gb_trans hg2 hg3); (have b0 := gb_cellN hg3 (x := ⟨wr.heap.size, 0, none⟩) (v := .int .u8 la.toNat) (by simp [go_sem])); (have hS4 := hS2.kept hg3); (have hf4 := hS4.fz la.toNat); (have cS4 := hS4.cell la))
                    refine ⟨⟨k + 1, by omega, by simp, ?_, la :: S, ?_, ?_⟩, by simp [intOf]; omega⟩
                    · exact gb_mine (gb_trans hg hg4) (gb_setCell (gb_refl _ _) _) (Nat.le_refl _)
                    · exact Sn.set hS4 la
                    · rw [HFL.out, show fl = [] from by (try have hla := HLA.out); rw [HE.out]; simp [*]]; rfl
                  · skip
                    go_wp2_with (first | (go_at_call 89; with_reducible refine (hb _).mono ?_; rintro e w2 ⟨rfl, rfl⟩) | (go_at_call 89; with_reducible refine (hu _).mono ?_; rintro e w2 ⟨rfl, rfl⟩))
                    go_quiet ((go_at_call 89; with_reducible exact Calls.quiet_of_same (hu _)))
                    have hg2 := gb_drewN hgA nq
                    have hS2 := hS.kept hg2
                    have hE2 := hErr.kept hg2
                    go_wp2_with (go_at_call 90; with_reducible refine (hfo _ hE2).mono ?_; rintro e w3 ⟨rfl, hg3⟩; (have hg4 := gb_trans hg2 hg3); (have b0 := gb_cellN hg3 (x := ⟨wr.heap.size, 0, none⟩) (v := .int .u8 la.toNat) (by simp [go_sem])); (have hS4 := hS2.kept hg3); (have hf4 := hS4.fz la.toNat); (have cS4 := hS4.cell la))
                    go_ret
                    refine ⟨congrArg (fun b => Ending.returned (sv b)) (Eq.trans ?_ HFL.out.symm), gb_trans hg hg4⟩
                    rw [show fl = badToken from by (try have hla := HLA.out); rw [HE.out]; simp [*]]; rfl
                · skip
                  go_wp2_with (first | (go_at_call 89; with_reducible refine (hb _).mono ?_; rintro e w2 ⟨rfl, rfl⟩) | (go_at_call 89; with_reducible refine (hu _).mono ?_; rintro e w2 ⟨rfl, rfl⟩))
                  go_ret
                  refine ⟨congrArg (fun b => Ending.returned (sv b)) (Eq.trans ?_ HFL.out.symm), gb_trans hg (by first | exact hgA | exact gb_drewN hgA _ | exact hg4)⟩
                  have hE := HE.out
                  rw [show fl = badToken from by (try have hla := HLA.out); rw [HE.out]; simp [*]]; rfl
        · skip
          go_wp2_with (first | (go_at_call 89; with_reducible refine (hb _).mono ?_; rintro e w2 ⟨rfl, rfl⟩) | (go_at_call 89; with_reducible refine (hu _).mono ?_; rintro e w2 ⟨rfl, rfl⟩))
          go_ret
          refine ⟨congrArg (fun b => Ending.returned (sv b)) (Eq.trans ?_ HFL.out.symm), gb_trans hg (by first | exact hgA | exact gb_drewN hgA _ | exact hg4)⟩
          have hE := HE.out
          rw [show fl = noFlag from by (try have hla := HLA.out); rw [HE.out]; simp [*]]; rfl
    · have d1 : decide ((fs.length : Int) < (fs.length : Int)) = false := decide_eq_false (by omega)
      have hfl'' : flS v [] fs = [] := by rw [hfl', List.drop_length]; rfl
      clear hfl'
      go_wp2
      go_ret
      exact ⟨by rw [hfl'']; rfl, hg⟩
end Go.Proofs.YtbbocbdoiealoaaGreatDoor
