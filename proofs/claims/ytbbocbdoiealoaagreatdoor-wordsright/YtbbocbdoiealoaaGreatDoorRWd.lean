import Derived.Test.YtbbocbdoiealoaaGreatDoorRE
set_option linter.unusedVariables false
set_option linter.unusedSimpArgs false
namespace Go.Proofs.YtbbocbdoiealoaaGreatDoor
open Go.RowKit Go.Shelf
theorem puint_42w (l : Bs) (hl : l.length ≤ 140737488355328) (w : World) (h : Er w) :
    Calls Tryz.prog 161 #[sv l, .int .i64 10, .int .i64 64] w fun e w' => w.grownBy w' none ∧
      ((∃ u, Lib.parseUintB 64 l = .ok u ∧ e = .returned (.tuple #[.int .u64 u, .nilIface])) ∨
        ((∀ u, Lib.parseUintB 64 l ≠ .ok u) ∧ ∃ u t p, e = .returned (.tuple #[.int .u64 u, .iface t p]))) := by
  have hs : (ByteArray.mk l.toArray).size = l.length := ba_size l
  obtain ⟨⟨a, b, h1⟩, c, d, h2⟩ := h
  cases hp : Lib.parseUintB 64 l with
  | ok u =>
    refine (Any.strconv_ParseUint_10_at64_ok layPu ⟨l.toArray⟩ (by omega) u hp w).mono ?_
    rintro e w' ⟨rfl, hw⟩
    refine ⟨?_, .inl ⟨u, rfl, rfl⟩⟩
    rcases hw with rfl | rfl
    · exact gb_refl _ _
    · exact gb_below (Lib.bytesWorld_below _ _ _)
  | range =>
    refine (Any.strconv_ParseUint_10_at64_range layPu ⟨l.toArray⟩ (by omega) hp _ w h2 (.inr ⟨_, _, rfl⟩)).mono ?_
    rintro e w' ⟨n, rfl, _, _, hb⟩
    exact ⟨gb_below hb, .inr ⟨by simp, _, _, _, rfl⟩⟩
  | _ =>
    refine (Any.strconv_ParseUint_10_at64_syntax layPu ⟨l.toArray⟩ (by omega) hp _ w h1 (.inr ⟨_, _, rfl⟩)).mono ?_
    rintro e w' ⟨n, rfl, _, _, hb⟩
    exact ⟨gb_below hb, .inr ⟨by simp, _, _, _, rfl⟩⟩
theorem pint_58w (l : Bs) (hl : l.length ≤ 140737488355328) (w : World) (h : Er w) :
    Calls Tryz.prog 160 #[sv l, .int .i64 10, .int .i64 64] w fun e w' => w.grownBy w' none ∧
      ((∃ u, Lib.parseIntB 64 l = .ok u ∧ e = .returned (.tuple #[.int .i64 u, .nilIface])) ∨
        ((∀ u, Lib.parseIntB 64 l ≠ .ok u) ∧ ∃ u t p, e = .returned (.tuple #[.int .i64 u, .iface t p]))) := by
  have hs : (ByteArray.mk l.toArray).size = l.length := ba_size l
  obtain ⟨⟨a, b, h1⟩, c, d, h2⟩ := h
  cases hp : Lib.parseIntB 64 l with
  | ok u =>
    refine (Any.strconv_ParseInt_10_at64_ok layPi ⟨l.toArray⟩ (by omega) u hp w).mono ?_
    rintro e w' ⟨rfl, hw⟩
    refine ⟨?_, .inl ⟨u, rfl, rfl⟩⟩
    rcases hw with rfl | ⟨t, rfl⟩
    · exact gb_refl _ _
    · exact gb_below (Lib.bytesWorld_below _ _ _)
  | range =>
    refine (Any.strconv_ParseInt_10_at64_range layPi ⟨l.toArray⟩ (by omega) hp _ w h2 (.inr ⟨_, _, rfl⟩)).mono ?_
    rintro e w' ⟨n, rfl, _, _, hb⟩
    exact ⟨gb_below hb, .inr ⟨by simp, _, _, _, rfl⟩⟩
  | _ =>
    refine (Any.strconv_ParseInt_10_at64_syntax layPi ⟨l.toArray⟩ (by omega) hp _ w h1 (.inr ⟨_, _, rfl⟩)).mono ?_
    rintro e w' ⟨n, rfl, _, _, hb⟩
    exact ⟨gb_below hb, .inr ⟨by simp, _, _, _, rfl⟩⟩
set_option maxHeartbeats 1000000 in
theorem number_30w (l : Bs) (hl : l.length ≤ 140737488355328) (m : Int) (most : Nat) (hmm : m = (most : Int)) (hm : most ≤ 18446744073709551615) (w : World) (h : Er w) :
    Calls Tryz.prog 138 #[sv l, .int .u64 m] w fun e w' => e = .returned (.tuple #[.int .u64 ((nb most l).getD 0 : Nat), .bool (nb most l).isSome]) ∧ w.grownBy w' none := by
  have hc := puint_42w l hl w h
  have hm0 : 0 ≤ m ∧ m ≤ 18446744073709551615 := by omega
  go_enter Tryz.func138, Tryz.ntmps138
  have HM := Lib.hid hmm
  clear hmm hm
  go_wp2_with (go_at_call 161; refine hc.mono ?_; rintro e w' ⟨hg, (⟨u, hu, rfl⟩ | ⟨hu, u, t, p, rfl⟩)⟩)
  · rename_i h1
    have h2 := HM.out
    have e : nb most l = none := by unfold nb; rw [hu]; simp; omega
    rw [e]
    go_ret2
    exact ⟨rfl, hg⟩
  · rename_i h1
    have h2 := HM.out
    have e : nb most l = some u := by unfold nb; rw [hu]; simp; omega
    rw [e]
    go_ret2
    exact ⟨rfl, hg⟩
  · have e : nb most l = none := by
      unfold nb
      split
      · rename_i u hu'; exact absurd hu' (hu u)
      · rfl
    rw [e]
    go_ret2
    exact ⟨rfl, hg⟩
set_option maxHeartbeats 1000000 in
theorem time_46w (l : Bs) (hl : l.length ≤ 140737488355328) (w : World) (h : Er w) :
    Calls Tryz.prog 137 #[sv l] w fun e w' => e = .returned (.tuple #[.int .i64 ((tm l).getD 0), .bool (tm l).isSome]) ∧ w.grownBy w' none := by
  have hc := pint_58w l hl w h
  have hok : ∀ u, Lib.parseIntB 64 l = .ok u → 0 < l.length ∧ tm l = if l.getD 0 0 = 43 then none else some u := by
    intro u hu
    cases l with
    | nil => simp [Lib.parseIntB] at hu
    | cons b t => exact ⟨by simp, by simp [tm, hu]⟩
  have hno : (∀ u, Lib.parseIntB 64 l ≠ .ok u) → tm l = none := by
    intro hu
    unfold tm
    split
    · rename_i u hu'; exact absurd hu' (hu u)
    · rfl
  have hg0 : ∀ h : 0 < (ByteArray.mk l.toArray).size, (ByteArray.mk l.toArray)[0] = l.getD 0 0 := fun h => ba_get l 0 h
  obtain ⟨b, hb⟩ : ∃ b, l.getD 0 0 = b := ⟨_, rfl⟩
  rw [hb] at hok
  simp only [hb] at hg0
  clear hb
  go_enter Tryz.func137, Tryz.ntmps137
  go_wp2_with (go_at_call 160; refine hc.mono ?_; rintro e w' ⟨hg, (⟨u, hu, rfl⟩ | ⟨hu, u, t, p, rfl⟩)⟩; rotate_left)
  · rw [hno hu]
    go_ret2
    exact ⟨rfl, hg⟩
  · rename_i h1
    have h43 : b = 43 := by apply UInt8.toNat_inj.1; have := beq_iff_eq.1 h1; show b.toNat = 43; omega
    rw [(hok u hu).2, if_pos h43]
    go_ret2
    exact ⟨rfl, hg⟩
  · rename_i h1
    have h43 : b ≠ 43 := by rintro rfl; simp at h1
    rw [(hok u hu).2, if_neg h43]
    go_ret2
    exact ⟨rfl, hg⟩
set_option maxHeartbeats 2000000 in
theorem follows_49w (v : Int) (f : Fl) (hl : f.arg.length ≤ 140737488355328) (w : World) (h : Er w) :
    Calls Tryz.prog 90 #[.int .i64 v, fv f] w fun e w' => e = .returned (.bool (follows v f)) ∧ w.grownBy w' none := by
  obtain ⟨a, l, q⟩ := f
  have h1 := fun w' (hw : Er w') => time_46w l hl w' hw
  have h2 := fun w' (hw : Er w') => number_30w l hl 18446744073709551615 18446744073709551615 rfl (by omega) w' hw
  have h3 := fun w' (hw : Er w') => number_30w l hl 4294967295 4294967295 rfl (by omega) w' hw
  have h4 := fun w' => isPlain_44 l (by dsimp only at hl; omega) w'
  have h5 := fun w' => modes_59 v w'
  obtain ⟨x1, e1⟩ : ∃ x, (tm l).isSome = x := ⟨_, rfl⟩
  obtain ⟨x2, e2⟩ : ∃ x, (nb 18446744073709551615 l).isSome = x := ⟨_, rfl⟩
  obtain ⟨x3, e3⟩ : ∃ x, (nb 4294967295 l).isSome = x := ⟨_, rfl⟩
  obtain ⟨x4, e4⟩ : ∃ x, plain l = x := ⟨_, rfl⟩
  obtain ⟨y2, f2⟩ : ∃ x : Int, ((nb 18446744073709551615 l).getD 0 : Nat) = x := ⟨_, rfl⟩
  obtain ⟨y3, f3⟩ : ∃ x : Int, ((nb 4294967295 l).getD 0 : Nat) = x := ⟨_, rfl⟩
  simp only [e1, e2, e3, e4, f2, f3] at h1 h2 h3 h4
  have HF : Hid (follows v ⟨a, l, q⟩ = if (a.toNat : Int) = 79 then x4 else if (a.toNat : Int) = 84 ∨ (a.toNat : Int) = 78 then x1 else
      if (a.toNat : Int) = 82 ∨ (a.toNat : Int) = 67 ∨ (a.toNat : Int) = 68 ∨ (a.toNat : Int) = 74 then x2 else if (a.toNat : Int) = 70 then x3 else
      if (a.toNat : Int) = 77 then mode1 v l else false) := by
    show _ = _
    simp only [follows, u8i, UInt8.reduceToNat, e1, e2, e3, e4]
    rfl
  clear e1 e2 e3 e4 f2 f3
  have hE : ∀ o, Er (w.alloc o) := fun o => h.kept (gb_alloc (gb_refl _ _) _)
  have hG : ∀ o w', (w.alloc o).grownBy w' none → w.grownBy w' none := fun o w' h => gb_trans (gb_alloc (gb_refl _ _) _) h
  go_enter Tryz.func90, Tryz.ntmps90
  go_wp2_with (first | (go_at_call 136; with_reducible refine (h4 _).mono ?_; rintro e w' ⟨rfl, rfl⟩) | (go_at_call 137; with_reducible refine (h1 _ (hE _)).mono ?_; rintro e w' ⟨rfl, hg⟩) | (go_at_call 138; with_reducible refine (h2 _ (hE _)).mono ?_; rintro e w' ⟨rfl, hg⟩) | (go_at_call 138; with_reducible refine (h3 _ (hE _)).mono ?_; rintro e w' ⟨rfl, hg⟩) | (go_at_call 139; with_reducible refine (h5 _).mono ?_; rintro e w' ⟨rfl, rfl⟩))
  all_goals clear h1 h2 h3 h4 hE
  all_goals try (
    clear h5
    (try simp only [beq_iff_eq, beq_eq_false_iff_ne, ne_eq] at *)
    go_ret
    refine ⟨congrArg (fun b => Ending.returned (Value.bool b)) (Eq.trans ?_ HF.out.symm), by first | exact hG _ _ hg | exact gb_alloc (gb_refl _ _) _⟩
    simp [*]
    done)
  have hc : Hid (¬(a.toNat : Int) = 79 ∧ ¬(a.toNat : Int) = 84 ∧ ¬(a.toNat : Int) = 78 ∧ ¬(a.toNat : Int) = 82 ∧ ¬(a.toNat : Int) = 67 ∧ ¬(a.toNat : Int) = 68 ∧ ¬(a.toNat : Int) = 74 ∧ ¬(a.toNat : Int) = 70 ∧ (a.toNat : Int) = 77) := by
    show _ ∧ _
    simp only [beq_iff_eq, beq_eq_false_iff_ne, ne_eq] at *
    simp [*]
  have hM : Hid (follows v ⟨a, l, q⟩ = mode1 v l) := by
    show _ = _
    rw [HF.out]
    have := hc.out
    simp [this]
  have c1 : (w.alloc (Obj.cells #[Value.int .u8 a.toNat, sv l, Value.bool q] 43)).cell? ⟨w.heap.size, 1, none⟩ = some (sv l) := (Box.new w 43 _).cell 1
  clear HF hc
  by_cases h1 : l.length = 1
  · obtain ⟨b, rfl⟩ : ∃ b, l = [b] := List.length_eq_one_iff.1 h1
    have hg0 : ∀ h : 0 < (ByteArray.mk [b].toArray).size, (ByteArray.mk [b].toArray)[0] = b := fun _ => rfl
    have hhas := fun w' => has_48 (modes v) b w'
    go_quiet ((first | (go_at_call 139; with_reducible exact Calls.quiet_of_same (h5 _)) | (go_at_call 89; with_reducible exact Calls.quiet_of_same (hhas _))))
    go_wp2
    go_ret
    exact ⟨congrArg (fun b => Ending.returned (Value.bool b)) ((List.contains_eq_mem b (modes v)).symm.trans hM.out.symm), gb_drewN (gb_alloc (gb_refl _ _) _) _⟩
  · have d1 : ((l.length : Int) == 1) = false := by simp; omega
    go_quiet (fail)
    go_wp2
    go_ret
    refine ⟨congrArg (fun b => Ending.returned (Value.bool b)) (Eq.trans ?_ hM.out.symm), gb_drewN (gb_alloc (gb_refl _ _) _) _⟩
    match l, h1 with
    | [], _ => rfl
    | [x], h => exact absurd rfl h
    | x :: y :: t, _ => rfl
set_option maxRecDepth 100000 in
set_option maxHeartbeats 4000000 in
theorem flags_34w (v : Int) (sl : Value) (fs : List Fl) (hfl : ∀ f ∈ fs, f.arg.length ≤ 140737488355328) (hn : fs.length ≤ 140737488355328) (w : World) (hE : Er w) (hF : Fs w sl fs) :
    Calls Tryz.prog 39 #[.int .i64 v, sl] w fun e w' => e = .returned (sv (flS v [] fs)) ∧ w.grownBy w' none := by
  rcases hF with ⟨rfl, a, c, rfl⟩ | ⟨g, c, rfl, hF⟩
  · exact flags_nil v a c w
  go_enter Tryz.func39, Tryz.ntmps39
  go_wp2_with (go_at_call 88; refine (letters_47 _ _).mono ?_; rintro e w' ⟨rfl, rfl⟩)
  go_loopw [17] (fun x wr => ∃ k : Nat, k ≤ fs.length ∧ x = .int .i64 k ∧ w'.grownBy wr none ∧ ∃ S, Sn wr w'.heap.size S ∧ flS v [] fs = flS v S (fs.drop k)) (fun x _ => fs.length - (intOf x).toNat)
  case atStart => exact ⟨0, by omega, rfl, gb_alloc (gb_refl _ _) _, [], Sn.new _, rfl⟩
  case round =>
    obtain ⟨k, hk, rfl, hg, S, hS, hfl'⟩ := hrel
    have hlt : k < fs.length ∨ k = fs.length := by omega
    rcases hlt with hlt | rfl
    · obtain ⟨f, hf⟩ : ∃ f, fs[k]? = some f := ⟨_, List.getElem?_eq_getElem hlt⟩
      have hfm : f ∈ fs := List.mem_of_getElem? hf
      have hdr : fs.drop k = f :: fs.drop (k + 1) := by
        have := List.drop_eq_getElem_cons hlt
        rw [List.getElem?_eq_getElem hlt] at hf
        injection hf with hf
        rw [this, hf]
      rw [hdr] at hfl'
      obtain ⟨la, ar, hs⟩ := f
      simp only [flS] at hfl'
      obtain ⟨c0, c1, c2⟩ := hF k _ hf
      have c0 := gb_cellN hg c0
      have c1 := gb_cellN hg c1
      have c2 := gb_cellN hg c2
      have d1 : decide ((k : Int) < (fs.length : Int)) = true := decide_eq_true (by omega)
      have hErr := hE.kept hg
      have hb := fun W => has_48 (bare v) la W
      have hu := fun W => has_48 (full v) la W
      have hlA := hfl _ hfm
      have hfo := fun W (hW : Er W) => follows_49w v ⟨la, ar, hs⟩ hlA W hW
      have hgA : wr.grownBy (wr.alloc (Obj.cells #[.int .u8 la.toNat, .string ⟨ar.toArray⟩, .bool hs] 79)) none := gb_alloc (gb_refl _ _) _
      have hSA := hS.kept hgA
      have cS := hSA.cell la
      have HE : Hid (fl1 v S ⟨la, ar, hs⟩ = if !(bare v).contains la && !(full v).contains la then noFlag else if S.contains la then twice else
        if la = 79 ∧ (ar = [] ∨ 32 < ar.length) then badOpaque else if hs ≠ decide (ar ≠ []) ∨ hs ≠ (full v).contains la ∨ (hs = true ∧ follows v ⟨la, ar, hs⟩ = false) then badToken else []) := rfl
      obtain ⟨p1, e1⟩ : ∃ p, (bare v).contains la = p := ⟨_, rfl⟩
      obtain ⟨p2, e2⟩ : ∃ p, (full v).contains la = p := ⟨_, rfl⟩
      obtain ⟨p3, e3⟩ : ∃ p, S.contains la = p := ⟨_, rfl⟩
      obtain ⟨p4, e4⟩ : ∃ p, follows v ⟨la, ar, hs⟩ = p := ⟨_, rfl⟩
      obtain ⟨fl, e5⟩ : ∃ p, fl1 v S ⟨la, ar, hs⟩ = p := ⟨_, rfl⟩
      rw [e1] at hb HE
      rw [e2] at hu HE
      rw [e3] at cS HE
      rw [e4] at HE
      rw [e5] at hfl' HE
      simp only [e4] at hfo
      have HFL := Lib.hid hfl'
      have hfz := hSA.fz la.toNat
      clear hfl' hf hdr hF hE e1 e2 e3 e4 e5 hfm hfl
      have h256 : (la.toNat : Int) < 256 := by have := UInt8.toNat_lt la; omega
      rcases Bool.eq_false_or_eq_true p1 with rfl | rfl
      · skip
        rcases Bool.eq_false_or_eq_true p3 with rfl | rfl
        · skip
          go_wp2_with (first | (go_at_call 89; with_reducible refine (hb _).mono ?_; rintro e w2 ⟨rfl, rfl⟩) | (go_at_call 89; with_reducible refine (hu _).mono ?_; rintro e w2 ⟨rfl, rfl⟩))
          go_ret
          refine ⟨congrArg (fun b => Ending.returned (sv b)) (Eq.trans ?_ HFL.out.symm), gb_trans hg (by first | exact hgA | exact gb_drewN hgA _ | exact hg4)⟩
          have hE := HE.out
          rw [show fl = twice from by (try have hla := HLA.out); rw [HE.out]; simp [*]]; rfl
        · by_cases hla : la = 79
          · have hl1 : ((la.toNat : Int) == 79) = true := by rw [hla]; rfl
            have HLA := Lib.hid hla
            clear hla
            rcases Nat.eq_zero_or_pos ar.length with h0 | h0
            · have h1 : ar = [] := List.length_eq_zero_iff.1 h0
              subst h1
              go_wp2_with (first | (go_at_call 89; with_reducible refine (hb _).mono ?_; rintro e w2 ⟨rfl, rfl⟩) | (go_at_call 89; with_reducible refine (hu _).mono ?_; rintro e w2 ⟨rfl, rfl⟩))
              go_ret
              refine ⟨congrArg (fun b => Ending.returned (sv b)) (Eq.trans ?_ HFL.out.symm), gb_trans hg (by first | exact hgA | exact gb_drewN hgA _ | exact hg4)⟩
              have hE := HE.out
              rw [show fl = badOpaque from by (try have hla := HLA.out); rw [HE.out]; simp [*]]; rfl
            · have h1 : ar ≠ [] := List.length_pos_iff.1 h0
              have h1b : ar.isEmpty = false := by simpa using h1
              rcases Nat.lt_or_ge 32 ar.length with h2 | h2
              · have h2b : decide (32 < (ar.length : Int)) = true := decide_eq_true (by omega)
                go_wp2_with (first | (go_at_call 89; with_reducible refine (hb _).mono ?_; rintro e w2 ⟨rfl, rfl⟩) | (go_at_call 89; with_reducible refine (hu _).mono ?_; rintro e w2 ⟨rfl, rfl⟩))
                go_ret
                refine ⟨congrArg (fun b => Ending.returned (sv b)) (Eq.trans ?_ HFL.out.symm), gb_trans hg (by first | exact hgA | exact gb_drewN hgA _ | exact hg4)⟩
                have hE := HE.out
                rw [show fl = badOpaque from by (try have hla := HLA.out); rw [HE.out]; simp [*]]; rfl
              · have h2b : decide (32 < (ar.length : Int)) = false := decide_eq_false (by omega)
                have h2c : ¬ 32 < ar.length := by omega
                rcases Bool.eq_false_or_eq_true hs with rfl | rfl
                · skip
                  rcases Bool.eq_false_or_eq_true p2 with rfl | rfl
                  · skip
                    rcases Bool.eq_false_or_eq_true p4 with rfl | rfl
                    · skip
                      go_wp2_with (first | (go_at_call 89; with_reducible refine (hb _).mono ?_; rintro e w2 ⟨rfl, rfl⟩) | (go_at_call 89; with_reducible refine (hu _).mono ?_; rintro e w2 ⟨rfl, rfl⟩))
                      go_quiet ((go_at_call 89; with_reducible exact Calls.quiet_of_same (hu _)))
                      have hg2 := gb_drewN hgA nq
                      have hS2 := hS.kept hg2
                      have hE2 := hErr.kept hg2
                      go_wp2_with (go_at_call 90; with_reducible refine (hfo _ hE2).mono ?_; rintro e w3 ⟨rfl, hg3⟩; (have hg4 := gb_trans hg2 hg3); (have b0 := gb_cellN hg3 (x := ⟨wr.heap.size, 0, none⟩) (v := .int .u8 la.toNat) (by simp [go_sem])); (have hS4 := hS2.kept hg3); (have hf4 := hS4.fz la.toNat); (have cS4 := hS4.cell la))
                      refine ⟨⟨k + 1, by omega, by simp, ?_, la :: S, ?_, ?_⟩, by simp [intOf]; omega⟩
                      · exact gb_mine (gb_trans hg hg4) (gb_setCell (gb_refl _ _) _) (Nat.le_refl _)
                      · exact Sn.set hS4 la
                      · rw [HFL.out, show fl = [] from by (try have hla := HLA.out); rw [HE.out]; simp [*]]; rfl
                    · skip
                      go_wp2_with (first | (go_at_call 89; with_reducible refine (hb _).mono ?_; rintro e w2 ⟨rfl, rfl⟩) | (go_at_call 89; with_reducible refine (hu _).mono ?_; rintro e w2 ⟨rfl, rfl⟩))
                      go_quiet ((go_at_call 89; with_reducible exact Calls.quiet_of_same (hu _)))
                      have hg2 := gb_drewN hgA nq
                      have hS2 := hS.kept hg2
                      have hE2 := hErr.kept hg2
                      go_wp2_with (go_at_call 90; with_reducible refine (hfo _ hE2).mono ?_; rintro e w3 ⟨rfl, hg3⟩; (have hg4 := gb_trans hg2 hg3); (have b0 := gb_cellN hg3 (x := ⟨wr.heap.size, 0, none⟩) (v := .int .u8 la.toNat) (by simp [go_sem])); (have hS4 := hS2.kept hg3); (have hf4 := hS4.fz la.toNat); (have cS4 := hS4.cell la))
                      go_ret
                      refine ⟨congrArg (fun b => Ending.returned (sv b)) (Eq.trans ?_ HFL.out.symm), gb_trans hg hg4⟩
                      rw [show fl = badToken from by (try have hla := HLA.out); rw [HE.out]; simp [*]]; rfl
                  · skip
                    go_wp2_with (first | (go_at_call 89; with_reducible refine (hb _).mono ?_; rintro e w2 ⟨rfl, rfl⟩) | (go_at_call 89; with_reducible refine (hu _).mono ?_; rintro e w2 ⟨rfl, rfl⟩))
                    go_quiet ((go_at_call 89; with_reducible exact Calls.quiet_of_same (hu _)))
                    go_wp2
                    go_ret
                    refine ⟨congrArg (fun b => Ending.returned (sv b)) (Eq.trans ?_ HFL.out.symm), gb_trans hg (by first | exact hgA | exact gb_drewN hgA _ | exact hg4)⟩
                    have hE := HE.out
                    rw [show fl = badToken from by (try have hla := HLA.out); rw [HE.out]; simp [*]]; rfl
                · skip
                  go_wp2_with (first | (go_at_call 89; with_reducible refine (hb _).mono ?_; rintro e w2 ⟨rfl, rfl⟩) | (go_at_call 89; with_reducible refine (hu _).mono ?_; rintro e w2 ⟨rfl, rfl⟩))
                  go_ret
                  refine ⟨congrArg (fun b => Ending.returned (sv b)) (Eq.trans ?_ HFL.out.symm), gb_trans hg (by first | exact hgA | exact gb_drewN hgA _ | exact hg4)⟩
                  have hE := HE.out
                  rw [show fl = badToken from by (try have hla := HLA.out); rw [HE.out]; simp [*]]; rfl
          · have hl1 : ((la.toNat : Int) == 79) = false := by rw [beq_eq_false_iff_ne]; intro e; exact hla (by rw [u8i]; exact e)
            rcases Nat.eq_zero_or_pos ar.length with h0 | h0
            · have h1 : ar = [] := List.length_eq_zero_iff.1 h0
              subst h1
              rcases Bool.eq_false_or_eq_true hs with rfl | rfl
              · skip
                go_wp2_with (first | (go_at_call 89; with_reducible refine (hb _).mono ?_; rintro e w2 ⟨rfl, rfl⟩) | (go_at_call 89; with_reducible refine (hu _).mono ?_; rintro e w2 ⟨rfl, rfl⟩))
                go_ret
                refine ⟨congrArg (fun b => Ending.returned (sv b)) (Eq.trans ?_ HFL.out.symm), gb_trans hg (by first | exact hgA | exact gb_drewN hgA _ | exact hg4)⟩
                have hE := HE.out
                rw [show fl = badToken from by (try have hla := HLA.out); rw [HE.out]; simp [*]]; rfl
              · skip
                rcases Bool.eq_false_or_eq_true p2 with rfl | rfl
                · skip
                  go_wp2_with (first | (go_at_call 89; with_reducible refine (hb _).mono ?_; rintro e w2 ⟨rfl, rfl⟩) | (go_at_call 89; with_reducible refine (hu _).mono ?_; rintro e w2 ⟨rfl, rfl⟩))
                  go_quiet ((go_at_call 89; with_reducible exact Calls.quiet_of_same (hu _)))
                  go_wp2
                  go_ret
                  refine ⟨congrArg (fun b => Ending.returned (sv b)) (Eq.trans ?_ HFL.out.symm), gb_trans hg (by first | exact hgA | exact gb_drewN hgA _ | exact hg4)⟩
                  have hE := HE.out
                  rw [show fl = badToken from by (try have hla := HLA.out); rw [HE.out]; simp [*]]; rfl
                · skip
                  go_wp2_with (first | (go_at_call 89; with_reducible refine (hb _).mono ?_; rintro e w2 ⟨rfl, rfl⟩) | (go_at_call 89; with_reducible refine (hu _).mono ?_; rintro e w2 ⟨rfl, rfl⟩))
                  go_quiet ((go_at_call 89; with_reducible exact Calls.quiet_of_same (hu _)))
                  go_wp2
                  refine ⟨⟨k + 1, by omega, by simp, ?_, la :: S, ?_, ?_⟩, by simp [intOf]; omega⟩
                  · exact gb_mine (gb_trans hg (gb_drewN hgA _)) (gb_setCell (gb_refl _ _) _) (Nat.le_refl _)
                  · exact Sn.set (hS.kept (gb_drewN hgA _)) la
                  · rw [HFL.out, show fl = [] from by (try have hla := HLA.out); rw [HE.out]; simp [*]]; rfl
            · have h1 : ar ≠ [] := List.length_pos_iff.1 h0
              have h1b : ar.isEmpty = false := by simpa using h1
              rcases Bool.eq_false_or_eq_true hs with rfl | rfl
              · skip
                rcases Bool.eq_false_or_eq_true p2 with rfl | rfl
                · skip
                  rcases Bool.eq_false_or_eq_true p4 with rfl | rfl
                  · skip
                    go_wp2_with (first | (go_at_call 89; with_reducible refine (hb _).mono ?_; rintro e w2 ⟨rfl, rfl⟩) | (go_at_call 89; with_reducible refine (hu _).mono ?_; rintro e w2 ⟨rfl, rfl⟩))
                    go_quiet ((go_at_call 89; with_reducible exact Calls.quiet_of_same (hu _)))
                    have hg2 := gb_drewN hgA nq
                    have hS2 := hS.kept hg2
                    have hE2 := hErr.kept hg2
                    go_wp2_with (go_at_call 90; with_reducible refine (hfo _ hE2).mono ?_; rintro e w3 ⟨rfl, hg3⟩; (have hg4 := gb_trans hg2 hg3); (have b0 := gb_cellN hg3 (x := ⟨wr.heap.size, 0, none⟩) (v := .int .u8 la.toNat) (by simp [go_sem])); (have hS4 := hS2.kept hg3); (have hf4 := hS4.fz la.toNat); (have cS4 := hS4.cell la))
                    refine ⟨⟨k + 1, by omega, by simp, ?_, la :: S, ?_, ?_⟩, by simp [intOf]; omega⟩
                    · exact gb_mine (gb_trans hg hg4) (gb_setCell (gb_refl _ _) _) (Nat.le_refl _)
                    · exact Sn.set hS4 la
                    · rw [HFL.out, show fl = [] from by (try have hla := HLA.out); rw [HE.out]; simp [*]]; rfl
                  · skip
                    go_wp2_with (first | (go_at_call 89; with_reducible refine (hb _).mono ?_; rintro e w2 ⟨rfl, rfl⟩) | (go_at_call 89; with_reducible refine (hu _).mono ?_; rintro e w2 ⟨rfl, rfl⟩))
                    go_quiet ((go_at_call 89; with_reducible exact Calls.quiet_of_same (hu _)))
                    have hg2 := gb_drewN hgA nq
                    have hS2 := hS.kept hg2
                    have hE2 := hErr.kept hg2
                    go_wp2_with (go_at_call 90; with_reducible refine (hfo _ hE2).mono ?_; rintro e w3 ⟨rfl, hg3⟩; (have hg4 := gb_trans hg2 hg3); (have b0 := gb_cellN hg3 (x := ⟨wr.heap.size, 0, none⟩) (v := .int .u8 la.toNat) (by simp [go_sem])); (have hS4 := hS2.kept hg3); (have hf4 := hS4.fz la.toNat); (have cS4 := hS4.cell la))
                    go_ret
                    refine ⟨congrArg (fun b => Ending.returned (sv b)) (Eq.trans ?_ HFL.out.symm), gb_trans hg hg4⟩
                    rw [show fl = badToken from by (try have hla := HLA.out); rw [HE.out]; simp [*]]; rfl
                · skip
                  go_wp2_with (first | (go_at_call 89; with_reducible refine (hb _).mono ?_; rintro e w2 ⟨rfl, rfl⟩) | (go_at_call 89; with_reducible refine (hu _).mono ?_; rintro e w2 ⟨rfl, rfl⟩))
                  go_quiet ((go_at_call 89; with_reducible exact Calls.quiet_of_same (hu _)))
                  go_wp2
                  go_ret
                  refine ⟨congrArg (fun b => Ending.returned (sv b)) (Eq.trans ?_ HFL.out.symm), gb_trans hg (by first | exact hgA | exact gb_drewN hgA _ | exact hg4)⟩
                  have hE := HE.out
                  rw [show fl = badToken from by (try have hla := HLA.out); rw [HE.out]; simp [*]]; rfl
              · skip
                go_wp2_with (first | (go_at_call 89; with_reducible refine (hb _).mono ?_; rintro e w2 ⟨rfl, rfl⟩) | (go_at_call 89; with_reducible refine (hu _).mono ?_; rintro e w2 ⟨rfl, rfl⟩))
                go_ret
                refine ⟨congrArg (fun b => Ending.returned (sv b)) (Eq.trans ?_ HFL.out.symm), gb_trans hg (by first | exact hgA | exact gb_drewN hgA _ | exact hg4)⟩
                have hE := HE.out
                rw [show fl = badToken from by (try have hla := HLA.out); rw [HE.out]; simp [*]]; rfl
      · rcases Bool.eq_false_or_eq_true p2 with rfl | rfl
        · skip
          rcases Bool.eq_false_or_eq_true p3 with rfl | rfl
          · skip
            go_wp2_with (first | (go_at_call 89; with_reducible refine (hb _).mono ?_; rintro e w2 ⟨rfl, rfl⟩) | (go_at_call 89; with_reducible refine (hu _).mono ?_; rintro e w2 ⟨rfl, rfl⟩))
            go_ret
            refine ⟨congrArg (fun b => Ending.returned (sv b)) (Eq.trans ?_ HFL.out.symm), gb_trans hg (by first | exact hgA | exact gb_drewN hgA _ | exact hg4)⟩
            have hE := HE.out
            rw [show fl = twice from by (try have hla := HLA.out); rw [HE.out]; simp [*]]; rfl
          · by_cases hla : la = 79
            · have hl1 : ((la.toNat : Int) == 79) = true := by rw [hla]; rfl
              have HLA := Lib.hid hla
              clear hla
              rcases Nat.eq_zero_or_pos ar.length with h0 | h0
              · have h1 : ar = [] := List.length_eq_zero_iff.1 h0
                subst h1
                go_wp2_with (first | (go_at_call 89; with_reducible refine (hb _).mono ?_; rintro e w2 ⟨rfl, rfl⟩) | (go_at_call 89; with_reducible refine (hu _).mono ?_; rintro e w2 ⟨rfl, rfl⟩))
                go_ret
                refine ⟨congrArg (fun b => Ending.returned (sv b)) (Eq.trans ?_ HFL.out.symm), gb_trans hg (by first | exact hgA | exact gb_drewN hgA _ | exact hg4)⟩
                have hE := HE.out
                rw [show fl = badOpaque from by (try have hla := HLA.out); rw [HE.out]; simp [*]]; rfl
              · have h1 : ar ≠ [] := List.length_pos_iff.1 h0
                have h1b : ar.isEmpty = false := by simpa using h1
                rcases Nat.lt_or_ge 32 ar.length with h2 | h2
                · have h2b : decide (32 < (ar.length : Int)) = true := decide_eq_true (by omega)
                  go_wp2_with (first | (go_at_call 89; with_reducible refine (hb _).mono ?_; rintro e w2 ⟨rfl, rfl⟩) | (go_at_call 89; with_reducible refine (hu _).mono ?_; rintro e w2 ⟨rfl, rfl⟩))
                  go_ret
                  refine ⟨congrArg (fun b => Ending.returned (sv b)) (Eq.trans ?_ HFL.out.symm), gb_trans hg (by first | exact hgA | exact gb_drewN hgA _ | exact hg4)⟩
                  have hE := HE.out
                  rw [show fl = badOpaque from by (try have hla := HLA.out); rw [HE.out]; simp [*]]; rfl
                · have h2b : decide (32 < (ar.length : Int)) = false := decide_eq_false (by omega)
                  have h2c : ¬ 32 < ar.length := by omega
                  rcases Bool.eq_false_or_eq_true hs with rfl | rfl
                  · skip
                    rcases Bool.eq_false_or_eq_true p4 with rfl | rfl
                    · skip
                      go_wp2_with (first | (go_at_call 89; with_reducible refine (hb _).mono ?_; rintro e w2 ⟨rfl, rfl⟩) | (go_at_call 89; with_reducible refine (hu _).mono ?_; rintro e w2 ⟨rfl, rfl⟩))
                      go_quiet ((go_at_call 89; with_reducible exact Calls.quiet_of_same (hu _)))
                      have hg2 := gb_drewN hgA nq
                      have hS2 := hS.kept hg2
                      have hE2 := hErr.kept hg2
                      go_wp2_with (go_at_call 90; with_reducible refine (hfo _ hE2).mono ?_; rintro e w3 ⟨rfl, hg3⟩; (have hg4 := gb_trans hg2 hg3); (have b0 := gb_cellN hg3 (x := ⟨wr.heap.size, 0, none⟩) (v := .int .u8 la.toNat) (by simp [go_sem])); (have hS4 := hS2.kept hg3); (have hf4 := hS4.fz la.toNat); (have cS4 := hS4.cell la))
                      refine ⟨⟨k + 1, by omega, by simp, ?_, la :: S, ?_, ?_⟩, by simp [intOf]; omega⟩
                      · exact gb_mine (gb_trans hg hg4) (gb_setCell (gb_refl _ _) _) (Nat.le_refl _)
                      · exact Sn.set hS4 la
                      · rw [HFL.out, show fl = [] from by (try have hla := HLA.out); rw [HE.out]; simp [*]]; rfl
                    · skip
                      go_wp2_with (first | (go_at_call 89; with_reducible refine (hb _).mono ?_; rintro e w2 ⟨rfl, rfl⟩) | (go_at_call 89; with_reducible refine (hu _).mono ?_; rintro e w2 ⟨rfl, rfl⟩))
                      go_quiet ((go_at_call 89; with_reducible exact Calls.quiet_of_same (hu _)))
                      have hg2 := gb_drewN hgA nq
                      have hS2 := hS.kept hg2
                      have hE2 := hErr.kept hg2
                      go_wp2_with (go_at_call 90; with_reducible refine (hfo _ hE2).mono ?_; rintro e w3 ⟨rfl, hg3⟩; (have hg4 := gb_trans hg2 hg3); (have b0 := gb_cellN hg3 (x := ⟨wr.heap.size, 0, none⟩) (v := .int .u8 la.toNat) (by simp [go_sem])); (have hS4 := hS2.kept hg3); (have hf4 := hS4.fz la.toNat); (have cS4 := hS4.cell la))
                      go_ret
                      refine ⟨congrArg (fun b => Ending.returned (sv b)) (Eq.trans ?_ HFL.out.symm), gb_trans hg hg4⟩
                      rw [show fl = badToken from by (try have hla := HLA.out); rw [HE.out]; simp [*]]; rfl
                  · skip
                    go_wp2_with (first | (go_at_call 89; with_reducible refine (hb _).mono ?_; rintro e w2 ⟨rfl, rfl⟩) | (go_at_call 89; with_reducible refine (hu _).mono ?_; rintro e w2 ⟨rfl, rfl⟩))
                    go_ret
                    refine ⟨congrArg (fun b => Ending.returned (sv b)) (Eq.trans ?_ HFL.out.symm), gb_trans hg (by first | exact hgA | exact gb_drewN hgA _ | exact hg4)⟩
                    have hE := HE.out
                    rw [show fl = badToken from by (try have hla := HLA.out); rw [HE.out]; simp [*]]; rfl
            · have hl1 : ((la.toNat : Int) == 79) = false := by rw [beq_eq_false_iff_ne]; intro e; exact hla (by rw [u8i]; exact e)
              rcases Nat.eq_zero_or_pos ar.length with h0 | h0
              · have h1 : ar = [] := List.length_eq_zero_iff.1 h0
                subst h1
                rcases Bool.eq_false_or_eq_true hs with rfl | rfl
                · skip
                  go_wp2_with (first | (go_at_call 89; with_reducible refine (hb _).mono ?_; rintro e w2 ⟨rfl, rfl⟩) | (go_at_call 89; with_reducible refine (hu _).mono ?_; rintro e w2 ⟨rfl, rfl⟩))
                  go_ret
                  refine ⟨congrArg (fun b => Ending.returned (sv b)) (Eq.trans ?_ HFL.out.symm), gb_trans hg (by first | exact hgA | exact gb_drewN hgA _ | exact hg4)⟩
                  have hE := HE.out
                  rw [show fl = badToken from by (try have hla := HLA.out); rw [HE.out]; simp [*]]; rfl
                · skip
                  go_wp2_with (first | (go_at_call 89; with_reducible refine (hb _).mono ?_; rintro e w2 ⟨rfl, rfl⟩) | (go_at_call 89; with_reducible refine (hu _).mono ?_; rintro e w2 ⟨rfl, rfl⟩))
                  go_quiet ((go_at_call 89; with_reducible exact Calls.quiet_of_same (hu _)))
                  go_wp2
                  go_ret
                  refine ⟨congrArg (fun b => Ending.returned (sv b)) (Eq.trans ?_ HFL.out.symm), gb_trans hg (by first | exact hgA | exact gb_drewN hgA _ | exact hg4)⟩
                  have hE := HE.out
                  rw [show fl = badToken from by (try have hla := HLA.out); rw [HE.out]; simp [*]]; rfl
              · have h1 : ar ≠ [] := List.length_pos_iff.1 h0
                have h1b : ar.isEmpty = false := by simpa using h1
                rcases Bool.eq_false_or_eq_true hs with rfl | rfl
                · skip
                  rcases Bool.eq_false_or_eq_true p4 with rfl | rfl
                  · skip
                    go_wp2_with (first | (go_at_call 89; with_reducible refine (hb _).mono ?_; rintro e w2 ⟨rfl, rfl⟩) | (go_at_call 89; with_reducible refine (hu _).mono ?_; rintro e w2 ⟨rfl, rfl⟩))
                    go_quiet ((go_at_call 89; with_reducible exact Calls.quiet_of_same (hu _)))
                    have hg2 := gb_drewN hgA nq
                    have hS2 := hS.kept hg2
                    have hE2 := hErr.kept hg2
                    go_wp2_with (go_at_call 90; with_reducible refine (hfo _ hE2).mono ?_; rintro e w3 ⟨rfl, hg3⟩; (have hg4 := gb_trans hg2 hg3); (have b0 := gb_cellN hg3 (x := ⟨wr.heap.size, 0, none⟩) (v := .int .u8 la.toNat) (by simp [go_sem])); (have hS4 := hS2.kept hg3); (have hf4 := hS4.fz la.toNat); (have cS4 := hS4.cell la))
                    refine ⟨⟨k + 1, by omega, by simp, ?_, la :: S, ?_, ?_⟩, by simp [intOf]; omega⟩
                    · exact gb_mine (gb_trans hg hg4) (gb_setCell (gb_refl _ _) _) (Nat.le_refl _)
                    · exact Sn.set hS4 la
                    · rw [HFL.out, show fl = [] from by (try have hla := HLA.out); rw [HE.out]; simp [*]]; rfl
                  · skip
                    go_wp2_with (first | (go_at_call 89; with_reducible refine (hb _).mono ?_; rintro e w2 ⟨rfl, rfl⟩) | (go_at_call 89; with_reducible refine (hu _).mono ?_; rintro e w2 ⟨rfl, rfl⟩))
                    go_quiet ((go_at_call 89; with_reducible exact Calls.quiet_of_same (hu _)))
                    have hg2 := gb_drewN hgA nq
                    have hS2 := hS.kept hg2
                    have hE2 := hErr.kept hg2
                    go_wp2_with (go_at_call 90; with_reducible refine (hfo _ hE2).mono ?_; rintro e w3 ⟨rfl, hg3⟩; (have hg4 := gb_trans hg2 hg3); (have b0 := gb_cellN hg3 (x := ⟨wr.heap.size, 0, none⟩) (v := .int .u8 la.toNat) (by simp [go_sem])); (have hS4 := hS2.kept hg3); (have hf4 := hS4.fz la.toNat); (have cS4 := hS4.cell la))
                    go_ret
                    refine ⟨congrArg (fun b => Ending.returned (sv b)) (Eq.trans ?_ HFL.out.symm), gb_trans hg hg4⟩
                    rw [show fl = badToken from by (try have hla := HLA.out); rw [HE.out]; simp [*]]; rfl
                · skip
                  go_wp2_with (first | (go_at_call 89; with_reducible refine (hb _).mono ?_; rintro e w2 ⟨rfl, rfl⟩) | (go_at_call 89; with_reducible refine (hu _).mono ?_; rintro e w2 ⟨rfl, rfl⟩))
                  go_ret
                  refine ⟨congrArg (fun b => Ending.returned (sv b)) (Eq.trans ?_ HFL.out.symm), gb_trans hg (by first | exact hgA | exact gb_drewN hgA _ | exact hg4)⟩
                  have hE := HE.out
                  rw [show fl = badToken from by (try have hla := HLA.out); rw [HE.out]; simp [*]]; rfl
        · skip
          go_wp2_with (first | (go_at_call 89; with_reducible refine (hb _).mono ?_; rintro e w2 ⟨rfl, rfl⟩) | (go_at_call 89; with_reducible refine (hu _).mono ?_; rintro e w2 ⟨rfl, rfl⟩))
          go_ret
          refine ⟨congrArg (fun b => Ending.returned (sv b)) (Eq.trans ?_ HFL.out.symm), gb_trans hg (by first | exact hgA | exact gb_drewN hgA _ | exact hg4)⟩
          have hE := HE.out
          rw [show fl = noFlag from by (try have hla := HLA.out); rw [HE.out]; simp [*]]; rfl
    · have d1 : decide ((fs.length : Int) < (fs.length : Int)) = false := decide_eq_false (by omega)
      have hfl'' : flS v [] fs = [] := by rw [hfl', List.drop_length]; rfl
      clear hfl'
      go_wp2
      go_ret
      exact ⟨by rw [hfl'']; rfl, hg⟩
end Go.Proofs.YtbbocbdoiealoaaGreatDoor
