/-
  WarmWraps: the law's walk.
-/
import Derived.Test.YtndjimdegkdljaaZn
import Derived.Test.YtndjimdegkdljaaZo
import Derived.Test.YtndjimdegkdljaaZp
import Derived.Deep.CutBlock
namespace Go.Proofs.Ytndjimdegkdljaa
open Go.RowKit Go.MapKept
set_option linter.unusedVariables false
set_option linter.unusedSimpArgs false
attribute [local go_sem] Oper.semAt_some

/-- A slice of acts that came in: what each does, and its name. -/
def ActIn (w : World) (a : Option Addr) (n : Nat) : Prop :=
  ∀ i, i < n → ∃ b o, a = some ⟨b, o, none⟩ ∧ ∃ (dn : Int) (s : Bs), w.cell? ⟨b, o + i * 8 + 1, none⟩ = some (.int .i64 dn) ∧ w.cell? ⟨b, o + i * 8 + 2, none⟩ = some (sv s) ∧ s.length ≤ 9223372036854775807
theorem neq54 (n : Int) (W : World) : (binOp .neq 30 (.iface 54 (.int .i64 n)) (.iface 54 (.int .i64 n))).run Try.prog W = .ok (.bool false) W := by
  obtain ⟨b, hb⟩ : ∃ b, (binOp .neq 30 (.iface 54 (.int .i64 n)) (.iface 54 (.int .i64 n))).run Try.prog W = .ok (.bool b) W ∧ b = !(n == n) := ⟨_, by kernel_rfl, rfl⟩
  rw [hb.1, hb.2]
  simp
theorem ext_take (l : Bs) : (ByteArray.mk l.toArray).extract 0 1000 = ByteArray.mk (l.take 1000).toArray := by
  apply ByteArray.ext
  simp
theorem fltO_why (call s : Bs) (c : Int) : ∃ x y, fltO call s c = .agg #[sv x, sv y, .int .i64 c] := by
  unfold fltO
  split
  · next h => exact ⟨[], [], by rw [h]⟩
  · exact ⟨call, s, rfl⟩

theorem ErrV.far {w w' : World} {v : Value} {call name : Bs} {why : Int} (h : ErrV w v call name why) {g : Nat} {A : Array Value} (hb : Box w 34 g A) (k : w.grownBy w' (some g)) : ErrV w' v call name why := by
  rcases h with h | ⟨h1, g', h2, h3⟩
  · exact .inl h
  · refine .inr ⟨h1, g', h2, h3.kept k (fun e => ?_)⟩
    rw [Option.some.inj e] at h3
    have h4 := hb.symm.trans h3
    injection h4 with h4
    injection h4 with _ h5 _
    exact absurd h5 (by decide)
set_option maxRecDepth 100000 in
set_option maxHeartbeats 8000000 in
theorem wraps_4 {w : World} {a : Option Addr} {n cp : Nat} (hA : ActIn w a n) (hn : n ≤ maxLen) (call name : Bs) (why : Int) (hc : call.length ≤ 9223372036854775807) (hm : name.length ≤ 9223372036854775807) :
    Calls Try.prog 4 #[.agg #[.slice a n cp, sv call, sv name, .int .i64 why]] w fun e w' => e = .returned (.bool true) ∧ w.grownBy w' none := by
  have g0 := gb_alloc (gb_refl w none) (.cells #[.slice a n cp, sv call, sv name, .int .i64 why] 50)
  have B0 := Box.new w 50 #[.slice a n cp, sv call, sv name, .int .i64 why]
  have h5 := stirs_5 (w.alloc (.cells #[.slice a n cp, sv call, sv name, .int .i64 why] 50))
  have HA := Lib.hid hA
  clear hA
  go_enter Try.func4, Try.ntmps4
  go_upto_region 8 with (first
    | (go_at_call 5; go_must (refine h5.mono ?_); rintro e w1 ⟨rfl, g1⟩; (have h6 := new_6 20 (by decide) (by decide) w1); clear h5)
    | (go_at_call 6; go_must (refine h6.mono ?_); rintro e w2 ⟨p, rfl, hp, g2, c2⟩; (have h7 := rnew_7 20 (by decide) (by decide) w2); clear h6)
    | (go_at_call 7; go_must (refine h7.mono ?_); rintro e w3 ⟨q, rfl, hq, g3, c3⟩; (have hflt : fltO [] [] 0 = .agg #[sv [], sv [], .int .i64 0] := by rfl); rw [hflt]; (have b3 := ((B0.kept g1 (by simp)).kept g2 (by simp)).kept g3 (by simp)); (have s3 : w3.cell? ⟨w.heap.size, 0, none⟩ = some (.slice a n cp) := b3.cell 0); (have s3' := fun o => gb_cellN (World.grownBy_alloc w3 o none) s3); clear h7))
  have hD := (du_new hp g2 c2 hq g3 c3).more (gb_alloc (gb_refl w3 none) (.cells #[.string ⟨#[]⟩, .string ⟨#[]⟩, .int .i64 0] 34))
  have B1 := B0.kept g1 (by simp)
  have G1 := gb_trans g0 g1
  generalize w3.alloc (.cells #[.string ⟨#[]⟩, .string ⟨#[]⟩, .int .i64 0] 34) = W4 at *
  generalize p.d = d at *
  generalize q.d = r at *
  have HD := Lib.hid hD
  have HB := Lib.hid B1
  have HG := Lib.hid G1
  obtain ⟨z0, hz0⟩ : ∃ z, w.heap.size = z := ⟨_, rfl⟩
  have HZ := Lib.hid (Nat.le_of_eq hz0)
  rw [hz0] at HB ⊢
  clear hD B1 G1 g0 B0 g1 hp g2 c2 hq g3 c3 hflt b3 s3 s3' hz0
  go_upto_block 0 with fail
  go_cut [8] from 9 to 107 (fun x8 wd => ∃ M : Md, Du w1 wd d r M M)
  case first =>
    go_wp2_with fail
    go_loopw [8] (fun x8 wr => ∃ (i : Nat) (M : Md), i ≤ n ∧ i ≤ 300 ∧ x8 = .int .i64 (i : Int) ∧ Du w1 wr d r M M ∧ M.acts ≤ i) (fun x8 _ => n - (intOf x8).toNat)
    case atStart => exact ⟨0, md0 20, by omega, by omega, rfl, HD.out, Nat.le_refl _⟩
    case round =>
      obtain ⟨i, M, hin, hi3, rfl, hD, hac⟩ := hrel
      clear HD
      by_cases hlt : i < n ∧ i < 300
      · obtain ⟨hlt, hl3⟩ := hlt
        obtain ⟨b, o, rfl, dn, s, q1, q2, hs⟩ := HA.out i hlt
        have q1' := gb_cellN (gb_trans HG.out hD.gb) q1
        have q2' := gb_cellN (gb_trans HG.out hD.gb) q2
        have d1 : decide ((i : Int) < (n : Int)) = true := by simp; omega
        have hib : (i : Int) < (n : Int) := by omega
        have d2 : decide ((i : Int) < 300) = true := by simp; omega
        have hi2 : (i : Int) < 300 := by omega
        have hw1 : IntKind.i64.wrap ((i : Int) + 1) = (i : Int) + 1 := by rw [IntKind.wrap_i64]; omega
        have QN := Lib.hid q2
        clear q1 q2 HA
        have B10 := Box.new wr 34 #[.string ⟨#[]⟩, .string ⟨#[]⟩, .int .i64 0]
        have gV := gb_alloc (gb_refl wr none) (.cells #[.string ⟨#[]⟩, .string ⟨#[]⟩, .int .i64 0] 34)
        have hD0 := hD.more gV
        have q1V := gb_cellN gV q1'
        have q2V := gb_cellN gV q2'
        go_upto_block 2 with fail
        have hlz : w1.heap.size ≤ wr.heap.size := hD.gb.size
        obtain ⟨g10, hg10⟩ : ∃ g, wr.heap.size = g := ⟨_, rfl⟩
        obtain ⟨V, hV⟩ : ∃ V, wr.alloc (.cells #[.string ⟨#[]⟩, .string ⟨#[]⟩, .int .i64 0] 34) = V := ⟨_, rfl⟩
        rw [hV] at B10 hD0 q2V ⊢
        rw [hg10] at B10 hlz ⊢
        clear hg10 hV q1V q1' gV hD
        go_cut [9] from 47 to 94 (fun x9 wd => ∃ (M' : Md) (c : Int) (cl nm x y : Bs), ErrV wd x9 cl nm c ∧ Box wd 34 g10 #[sv x, sv y, .int .i64 c] ∧ Du w1 wd d r M' M' ∧ M'.acts ≤ i + 1)
        case first =>
          by_cases h1 : dn = 1
          · subst h1
            go_upto_region 15 with fail
            have hflx := fltO_why [99, 114, 101, 97, 116, 101] s (actR M (doC M.act1 s)).1
            have hacts : (actR M (doC M.act1 s)).2.acts ≤ i + 1 := by rw [actR_acts (by rw [doC_acts]; rfl)]; omega
            have h13 := fun (W : World) (gW : V.grownBy W none) => du_13 (hD0.more gW) (by omega) s hs
            have h14 := fun (W : World) (N : Md) (hN : Du w1 W d r N M) => du_14 hN (by omega) s hs
            generalize actR M (doC M.act1 s) = res at *
            obtain ⟨x, y, hfl⟩ := hflx
            rw [hfl] at h14
            clear hfl
            go_region_with (first
              | (go_at_call 13; go_must (refine (h13 _ (by first | exact gb_refl _ _ | exact gb_drew (gb_refl _ _) | exact gb_drewN (gb_refl _ _) _)).mono ?_); rintro ye w5 ⟨⟨v5, rfl, hv5⟩, hD5, hK5⟩; (have k5 : w5.cell? ⟨b, o + i * 8 + 2, none⟩ = some (sv s) := gb_cellN (gb_trans HG.out hD5.gb) QN.out); (have H5 := Lib.hid (And.intro hv5 (And.intro hD5 hK5))); clear hv5 hD5 hK5)
              | (go_at_call 14; go_must (refine (h14 _ _ (H5.out.2.1.more (by first | exact gb_refl _ _ | exact gb_drew (gb_refl _ _) | exact gb_drewN (gb_refl _ _) _))).mono ?_); rintro ye w6 ⟨rfl, hD6, hK6⟩; (have b6 : Box w6 34 g10 #[sv [], sv [], .int .i64 0] := hK6.box (Box.kept (row := none) (H5.out.2.2.box (Box.kept (row := none) B10 (by first | exact gb_refl _ _ | exact gb_drew (gb_refl _ _) | exact gb_drewN (gb_refl _ _) _) (by simp)) (.inl rfl)) (by first | exact gb_refl _ _ | exact gb_drew (gb_refl _ _) | exact gb_drewN (gb_refl _ _) _) (by simp)) (.inl rfl)); (have v6 := hK6.err (H5.out.1.kept (by first | exact gb_refl _ _ | exact gb_drew (gb_refl _ _) | exact gb_drewN (gb_refl _ _) _))); (have e0 : w6.cell? ⟨g10, 0, none⟩ = some (sv []) := b6.cell 0); (have e1 : w6.cell? ⟨g10, 1, none⟩ = some (sv []) := b6.cell 1); (have e2 : w6.cell? ⟨g10, 2, none⟩ = some (.int .i64 0) := b6.cell 2); (have f0 : w6.frozen? ⟨g10, 0, none⟩ = false := b6.fz 0); (have f1 : w6.frozen? ⟨g10, 1, none⟩ = false := b6.fz 1); (have f2 : w6.frozen? ⟨g10, 2, none⟩ = false := b6.fz 2); (have H6 := Lib.hid (And.intro hD6 (And.intro b6 v6))); clear hD6 hK6 b6 v6))
            all_goals
              go_wp2_with fail
              go_meet
              have k6 : w6.grownBy (((w6.setCell ⟨g10, 0, none⟩ (sv x)).setCell ⟨g10, 1, none⟩ (sv y)).setCell ⟨g10, 2, none⟩ (.int .i64 res.1)) (some g10) := gb_setCell (gb_setCell (gb_setCell (gb_refl _ _) _) _) _
              exact ⟨_, _, _, _, _, _, H6.out.2.2.far H6.out.2.1 k6, ((H6.out.2.1.set 0 _).set 1 _).set 2 _, H6.out.1.far H6.out.2.1 (.inl rfl) hlz k6, hacts⟩
          by_cases h5 : dn = 5
          · subst h5
            go_upto_region 17 with fail
            have hflx := fltO_why [114, 101, 109, 111, 118, 101] s (actR M (doRm M.act1 s)).1
            have hacts : (actR M (doRm M.act1 s)).2.acts ≤ i + 1 := by rw [actR_acts (by rw [doRm_acts]; rfl)]; omega
            have h13 := fun (W : World) (gW : V.grownBy W none) => du_15 (hD0.more gW) (by omega) s hs
            have h14 := fun (W : World) (N : Md) (hN : Du w1 W d r N M) => du_16 hN (by omega) s hs
            generalize actR M (doRm M.act1 s) = res at *
            obtain ⟨x, y, hfl⟩ := hflx
            rw [hfl] at h14
            clear hfl
            go_region_with (first
              | (go_at_call 15; go_must (refine (h13 _ (by first | exact gb_refl _ _ | exact gb_drew (gb_refl _ _) | exact gb_drewN (gb_refl _ _) _)).mono ?_); rintro ye w5 ⟨⟨v5, rfl, hv5⟩, hD5, hK5⟩; (have k5 : w5.cell? ⟨b, o + i * 8 + 2, none⟩ = some (sv s) := gb_cellN (gb_trans HG.out hD5.gb) QN.out); (have H5 := Lib.hid (And.intro hv5 (And.intro hD5 hK5))); clear hv5 hD5 hK5)
              | (go_at_call 16; go_must (refine (h14 _ _ (H5.out.2.1.more (by first | exact gb_refl _ _ | exact gb_drew (gb_refl _ _) | exact gb_drewN (gb_refl _ _) _))).mono ?_); rintro ye w6 ⟨rfl, hD6, hK6⟩; (have b6 : Box w6 34 g10 #[sv [], sv [], .int .i64 0] := hK6.box (Box.kept (row := none) (H5.out.2.2.box (Box.kept (row := none) B10 (by first | exact gb_refl _ _ | exact gb_drew (gb_refl _ _) | exact gb_drewN (gb_refl _ _) _) (by simp)) (.inl rfl)) (by first | exact gb_refl _ _ | exact gb_drew (gb_refl _ _) | exact gb_drewN (gb_refl _ _) _) (by simp)) (.inl rfl)); (have v6 := hK6.err (H5.out.1.kept (by first | exact gb_refl _ _ | exact gb_drew (gb_refl _ _) | exact gb_drewN (gb_refl _ _) _))); (have e0 : w6.cell? ⟨g10, 0, none⟩ = some (sv []) := b6.cell 0); (have e1 : w6.cell? ⟨g10, 1, none⟩ = some (sv []) := b6.cell 1); (have e2 : w6.cell? ⟨g10, 2, none⟩ = some (.int .i64 0) := b6.cell 2); (have f0 : w6.frozen? ⟨g10, 0, none⟩ = false := b6.fz 0); (have f1 : w6.frozen? ⟨g10, 1, none⟩ = false := b6.fz 1); (have f2 : w6.frozen? ⟨g10, 2, none⟩ = false := b6.fz 2); (have H6 := Lib.hid (And.intro hD6 (And.intro b6 v6))); clear hD6 hK6 b6 v6))
            all_goals
              go_wp2_with fail
              go_meet
              have k6 : w6.grownBy (((w6.setCell ⟨g10, 0, none⟩ (sv x)).setCell ⟨g10, 1, none⟩ (sv y)).setCell ⟨g10, 2, none⟩ (.int .i64 res.1)) (some g10) := gb_setCell (gb_setCell (gb_setCell (gb_refl _ _) _) _) _
              exact ⟨_, _, _, _, _, _, H6.out.2.2.far H6.out.2.1 k6, ((H6.out.2.1.set 0 _).set 1 _).set 2 _, H6.out.1.far H6.out.2.1 (.inl rfl) hlz k6, hacts⟩
          by_cases h3 : dn = 3
          · subst h3
            go_upto_region 19 with fail
            have hflx := fltO_why [115, 121, 110, 99] s (actR M (doSy M.act1 s)).1
            have hacts : (actR M (doSy M.act1 s)).2.acts ≤ i + 1 := by rw [actR_acts (by rw [doSy_acts]; rfl)]; omega
            have h13 := fun (W : World) (gW : V.grownBy W none) => du_17 (hD0.more gW) (by omega) s hs
            have h14 := fun (W : World) (N : Md) (hN : Du w1 W d r N M) => du_18 hN (by omega) s hs
            generalize actR M (doSy M.act1 s) = res at *
            obtain ⟨x, y, hfl⟩ := hflx
            rw [hfl] at h14
            clear hfl
            go_region_with (first
              | (go_at_call 17; go_must (refine (h13 _ (by first | exact gb_refl _ _ | exact gb_drew (gb_refl _ _) | exact gb_drewN (gb_refl _ _) _)).mono ?_); rintro ye w5 ⟨⟨v5, rfl, hv5⟩, hD5, hK5⟩; (have k5 : w5.cell? ⟨b, o + i * 8 + 2, none⟩ = some (sv s) := gb_cellN (gb_trans HG.out hD5.gb) QN.out); (have H5 := Lib.hid (And.intro hv5 (And.intro hD5 hK5))); clear hv5 hD5 hK5)
              | (go_at_call 18; go_must (refine (h14 _ _ (H5.out.2.1.more (by first | exact gb_refl _ _ | exact gb_drew (gb_refl _ _) | exact gb_drewN (gb_refl _ _) _))).mono ?_); rintro ye w6 ⟨rfl, hD6, hK6⟩; (have b6 : Box w6 34 g10 #[sv [], sv [], .int .i64 0] := hK6.box (Box.kept (row := none) (H5.out.2.2.box (Box.kept (row := none) B10 (by first | exact gb_refl _ _ | exact gb_drew (gb_refl _ _) | exact gb_drewN (gb_refl _ _) _) (by simp)) (.inl rfl)) (by first | exact gb_refl _ _ | exact gb_drew (gb_refl _ _) | exact gb_drewN (gb_refl _ _) _) (by simp)) (.inl rfl)); (have v6 := hK6.err (H5.out.1.kept (by first | exact gb_refl _ _ | exact gb_drew (gb_refl _ _) | exact gb_drewN (gb_refl _ _) _))); (have e0 : w6.cell? ⟨g10, 0, none⟩ = some (sv []) := b6.cell 0); (have e1 : w6.cell? ⟨g10, 1, none⟩ = some (sv []) := b6.cell 1); (have e2 : w6.cell? ⟨g10, 2, none⟩ = some (.int .i64 0) := b6.cell 2); (have f0 : w6.frozen? ⟨g10, 0, none⟩ = false := b6.fz 0); (have f1 : w6.frozen? ⟨g10, 1, none⟩ = false := b6.fz 1); (have f2 : w6.frozen? ⟨g10, 2, none⟩ = false := b6.fz 2); (have H6 := Lib.hid (And.intro hD6 (And.intro b6 v6))); clear hD6 hK6 b6 v6))
            all_goals
              go_wp2_with fail
              go_meet
              have k6 : w6.grownBy (((w6.setCell ⟨g10, 0, none⟩ (sv x)).setCell ⟨g10, 1, none⟩ (sv y)).setCell ⟨g10, 2, none⟩ (.int .i64 res.1)) (some g10) := gb_setCell (gb_setCell (gb_setCell (gb_refl _ _) _) _) _
              exact ⟨_, _, _, _, _, _, H6.out.2.2.far H6.out.2.1 k6, ((H6.out.2.1.set 0 _).set 1 _).set 2 _, H6.out.1.far H6.out.2.1 (.inl rfl) hlz k6, hacts⟩
          · go_wp2_with fail
            go_meet
            exact ⟨M, 0, [], [], [], [], .inl ⟨rfl, rfl⟩, B10, hD0, by omega⟩
        case rest =>
          obtain ⟨M', c, cl, nm, x, y, hv, b7, hD7, ha7⟩ := hcut
          have H7 := Lib.hid (And.intro hv (And.intro b7 hD7))
          have q7 : wc.cell? ⟨g10, 2, none⟩ = some (.int .i64 c) := b7.cell 2
          clear hv b7 hD7
          go_wp2_with fail
          have HX := Lib.hid (show ∃ wx, wx = wr ∧ True from ⟨wr, rfl, trivial⟩)
          obtain ⟨WR, hWR⟩ : ∃ W2, W2 = wr := ⟨wr, rfl⟩
          subst hWR
          clear HX
          go_loopw [11] (fun x11 wi => ∃ k : Nat, 1 ≤ k ∧ k ≤ 211 ∧ x11 = .int .i64 (k : Int) ∧ wc.grownBy wi none) (fun x11 _ => 211 - (intOf x11).toNat)
          case atStart => exact ⟨1, by omega, by omega, rfl, gb_refl _ _⟩
          case round =>
            obtain ⟨k, hk1, hk2, rfl, gi⟩ := hrel
            by_cases hk : k ≤ 210
            · have dk : decide ((k : Int) ≤ 210) = true := by simp; omega
              have hk' : (k : Int) ≤ 210 := by omega
              have hwk : IntKind.i64.wrap ((k : Int) + 1) = (k : Int) + 1 := by rw [IntKind.wrap_i64]; omega
              have qi := gb_cellN gi q7
              have h19 := fun (W : World) (gW : wr.grownBy W none) => is_err (H7.out.1.kept (gb_trans gi gW)) (k : Int) (by omega)
              go_upto_region 23 with fail
              go_quiet ((go_at_call 19; exact Calls.quiet_of_same (h19 _ (gb_drewN (gb_refl _ _) _))))
              have hbb : (!decide (c = (k : Int)) == (c == (k : Int))) = false := by
                by_cases hck : c = (k : Int)
                · simp [hck]
                · simp [hck]
              go_wp2_with fail
              all_goals first
                | (exfalso; rename_i hbad; rw [hbb] at hbad; exact absurd hbad (by decide))
                | exact ⟨⟨k + 1, by omega, by omega, by first | rfl | simp, gb_drewN gi _⟩, by simp [intOf]; omega⟩
            · obtain rfl : k = 211 := by omega
              go_wp2_with fail
              refine ⟨⟨i + 1, M', by omega, by omega, by first | rfl | simp, H7.out.2.2.more gi, ha7⟩, by simp [intOf]; omega⟩
      · have hx : ¬ i < n ∨ ¬ i < 300 := by omega
        by_cases hin2 : i < n
        · have d1 : decide ((i : Int) < (n : Int)) = true := by simp; omega
          have e1 : (i : Int) < (n : Int) := by omega
          obtain rfl : i = 300 := by omega
          go_wp2_with fail
          go_meet
          exact ⟨M, hD⟩
        · have d1 : decide ((i : Int) < (n : Int)) = false := by simp; omega
          have e1 : ¬ (i : Int) < (n : Int) := by omega
          go_wp2_with fail
          go_meet
          exact ⟨M, hD⟩
  case rest =>
    obtain ⟨M, hD⟩ := hcut
    have b5 := HB.out.kept hD.gb (by simp)
    have G5 := gb_trans HG.out hD.gb
    have hz : w.heap.size ≤ z0 := HZ.out
    clear HA HB HG HD hD HZ
    have c1 : wc.cell? ⟨z0, 1, none⟩ = some (sv call) := b5.cell 1
    have f1 : wc.frozen? ⟨z0, 1, none⟩ = false := b5.fz 1
    go_upto_if 111 with fail
    go_cut [1] from 108 to 115 (fun x1 wd => x1 = pv z0 ∧ ∃ cl : Bs, cl.length ≤ 1000 ∧ Box wd 50 z0 #[.slice a n cp, sv cl, sv name, .int .i64 why] ∧ w.grownBy wd none)
    case first =>
      by_cases hl : 1000 < call.length
      · have dl : decide ((1000 : Int) < (call.length : Int)) = true := by simp; omega
        have dl' : (1000 : Int) < (call.length : Int) := by omega
        have dl2 : (1000 : Nat) ≤ call.length := by omega
        go_wp2_with fail
        go_meet
        rw [ext_take]
        exact ⟨rfl, call.take 1000, by rw [List.length_take]; omega, b5.set 1 _, gb_mine G5 (gb_setCell (gb_refl _ _) _) hz⟩
      · have dl : decide ((1000 : Int) < (call.length : Int)) = false := by simp; omega
        have dl' : ¬ (1000 : Int) < (call.length : Int) := by omega
        go_wp2_with fail
        go_meet
        exact ⟨rfl, call, by omega, b5, G5⟩
    case rest =>
      obtain ⟨rfl, cl, hcl, b6, G6⟩ := hcut
      clear c1 f1 b5 G5
      have c2 : wc.cell? ⟨z0, 2, none⟩ = some (sv name) := b6.cell 2
      have f2 : wc.frozen? ⟨z0, 2, none⟩ = false := b6.fz 2
      go_upto_if 119 with fail
      go_cut [1] from 116 to 123 (fun x1 wd => x1 = pv z0 ∧ ∃ nm : Bs, nm.length ≤ 1000 ∧ Box wd 50 z0 #[.slice a n cp, sv cl, sv nm, .int .i64 why] ∧ w.grownBy wd none)
      case first =>
        by_cases hl : 1000 < name.length
        · have dl : decide ((1000 : Int) < (name.length : Int)) = true := by simp; omega
          have dl' : (1000 : Int) < (name.length : Int) := by omega
          have dl2 : (1000 : Nat) ≤ name.length := by omega
          go_wp2_with fail
          go_meet
          rw [ext_take]
          exact ⟨rfl, name.take 1000, by rw [List.length_take]; omega, b6.set 2 _, gb_mine G6 (gb_setCell (gb_refl _ _) _) hz⟩
        · have dl : decide ((1000 : Int) < (name.length : Int)) = false := by simp; omega
          have dl' : ¬ (1000 : Int) < (name.length : Int) := by omega
          go_wp2_with fail
          go_meet
          exact ⟨rfl, name, by omega, b6, G6⟩
      case rest =>
        obtain ⟨rfl, nm, hnm, b7, G7⟩ := hcut
        clear c2 f2 b6 G6
        have c1 : wc.cell? ⟨z0, 1, none⟩ = some (sv cl) := b7.cell 1
        have c2 : wc.cell? ⟨z0, 2, none⟩ = some (sv nm) := b7.cell 2
        have c3 : wc.cell? ⟨z0, 3, none⟩ = some (.int .i64 why) := b7.cell 3
        have k1 := fun o => gb_cellN (World.grownBy_alloc wc o none) c1
        have k2 := fun o => gb_cellN (World.grownBy_alloc wc o none) c2
        have k3 := fun o => gb_cellN (World.grownBy_alloc wc o none) c3
        have O1 := Box.new wc 57 #[sv cl, sv nm, .iface 54 (.int .i64 why)]
        have gO := gb_alloc (gb_refl wc none) (.cells #[sv cl, sv nm, .iface 54 (.int .i64 why)] 57)
        have O2 := Box.new (wc.alloc (.cells #[sv cl, sv nm, .iface 54 (.int .i64 why)] 57)) 57 #[sv cl, sv [], .nilIface]
        have gP := gb_alloc (gb_refl (wc.alloc (.cells #[sv cl, sv nm, .iface 54 (.int .i64 why)] 57)) none) (.cells #[sv cl, sv [], .nilIface] 57)
        rw [show (wc.alloc (.cells #[sv cl, sv nm, .iface 54 (.int .i64 why)] 57)).heap.size = wc.heap.size + 1 by simp] at O2
        have O1' := O1.kept gP (by simp)
        have G8 := gb_trans G7 (gb_trans gO gP)
        have b8 := b7.kept (gb_trans gO gP) (by simp)
        go_upto_region 31 with fail
        obtain ⟨g1, hg1⟩ : ∃ g, wc.heap.size = g := ⟨_, rfl⟩
        obtain ⟨V, hV⟩ : ∃ V, (wc.alloc (.cells #[sv cl, sv nm, .iface 54 (.int .i64 why)] 57)).alloc (.cells #[sv cl, sv [], .nilIface] 57) = V := ⟨_, rfl⟩
        have hV' : (wc.alloc (.cells #[.string ⟨cl.toArray⟩, .string ⟨nm.toArray⟩, .iface 54 (.int .i64 why)] 57)).alloc (.cells #[.string ⟨cl.toArray⟩, .string ⟨#[]⟩, .nilIface] 57) = V := hV
        rw [hV] at O2 O1' G8 b8
        first | rw [hV] | rw [hV'] | skip
        rw [hg1] at O2 O1' ⊢
        clear hg1 hV hV' O1 gO gP k1 k2 k3 c1 c2 c3 b7 G7
        have c1 : V.cell? ⟨z0, 1, none⟩ = some (sv cl) := b8.cell 1
        have c2 : V.cell? ⟨z0, 2, none⟩ = some (sv nm) := b8.cell 2
        have c3 : V.cell? ⟨z0, 3, none⟩ = some (.int .i64 why) := b8.cell 3
        have h20o := fun (W : World) (gW : V.grownBy W none) => unwrap_20 (O1'.kept gW (by simp))
        have h20b := fun (W : World) (gW : V.grownBy W none) => unwrap_20 (O2.kept gW (by simp))
        have h21b := fun (W : World) (gW : V.grownBy W none) => error_bare (O2.kept gW (by simp)) hcl
        have h54 := neq54 why
        have happ := bs_app cl [58, 32]
        have hcl2 : cl.length + 2 ≤ 9223372036854775807 := by omega
        go_quiet ((first
          | (go_at_call 21; with_reducible exact Calls.quiet_of_same (h21b _ (gb_drewN (gb_refl _ _) _)))
          | (go_at_call 20; with_reducible exact Calls.quiet_of_same (h20o _ (gb_drewN (gb_refl _ _) _)))
          | (go_at_call 20; with_reducible exact Calls.quiet_of_same (h20b _ (gb_drewN (gb_refl _ _) _)))))
        go_upto_region 33 with fail
        have gW : V.grownBy (V.drewN nq) none := gb_drewN (gb_refl _ _) _
        have O3 := O1'.kept gW (by simp)
        have G9 := gb_trans G8 gW
        have b9 := b8.kept gW (by simp)
        generalize V.drewN nq = W at *
        have e1 : W.cell? ⟨z0, 1, none⟩ = some (sv cl) := b9.cell 1
        have e2 : W.cell? ⟨z0, 2, none⟩ = some (sv nm) := b9.cell 2
        have e3 : W.cell? ⟨z0, 3, none⟩ = some (.int .i64 why) := b9.cell 3
        clear c1 c2 c3 h20o h20b h21b h54 happ O1' O2 G8 b8 gW
        by_cases hy : why = 0
        · subst hy
          have h8 := told_zero O3
          go_wp2_with (go_at_call 8; go_must (refine h8.mono ?_); rintro e w8 ⟨rfl, g8⟩; (have q8 := gb_cellN g8 e3))
          go_ret
          exact ⟨rfl, gb_trans G9 g8⟩
        · have h8 := told_8 (v := .iface 55 (pv g1)) (.inr ⟨hy, g1, rfl, O3⟩) hcl (by omega)
          have hfl : fltO cl nm why = .agg #[sv cl, sv nm, .int .i64 why] := by unfold fltO; rw [if_neg hy]
          rw [hfl] at h8
          clear hfl
          go_wp2_with (go_at_call 8; go_must (refine h8.mono ?_); rintro e w8 ⟨rfl, g8⟩; (have q8 := gb_cellN g8 e3))
          go_ret
          exact ⟨rfl, gb_trans G9 g8⟩
end Go.Proofs.Ytndjimdegkdljaa
