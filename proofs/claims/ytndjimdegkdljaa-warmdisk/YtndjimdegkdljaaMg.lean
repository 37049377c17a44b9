import Derived.Test.YtndjimdegkdljaaI
import Derived.Test.YtndjimdegkdljaaJ
/-
  Acts: a file made, taken away, made safe, as calls of a disk.
-/
namespace Go.Proofs.Ytndjimdegkdljaa
open Go.RowKit Go.MapKept
set_option linter.unusedVariables false
set_option linter.unusedSimpArgs false
attribute [local go_sem] Oper.semAt_some

def Md.act1 (M : Md) : Md := { M with acts := M.acts + 1 }
/-- What an act answers and leaves, if the act itself answers and leaves r. -/
def actR (M : Md) (r : Int × Md) : Int × Md := bearR (fvo (M.plan ((M.acts + 1 : Nat) : Int))).kind r.1 M.act1 r.2
def doC (M : Md) (s : Bs) : Int × Md := if okN s = true then (match M.names s with | some _ => (183, M) | none => (0, M.create s)) else (186, M)
def doRm (M : Md) (s : Bs) : Int × Md := if okN s = true then (match M.names s with | some k => (0, M.chg ⟨s, [], k⟩) | none => (182, M)) else (186, M)
def doSy (M : Md) (s : Bs) : Int × Md := if okN s = true then (match M.names s with | some k => (0, M.put k ((M.files[k]?.getD ([], 0)).1, (M.files[k]?.getD ([], 0)).1.length)) | none => (182, M)) else (186, M)
theorem Aft.kp1 {w w' : World} {p : Pl} {M : Md} (h : RP w p M) (hk : Kp (fun b => b = p.d) w w') : Aft w w' p p :=
  ⟨hk.mono (fun b hb => .inl (by rw [hb, h.cd]; decide)), rfl, fun _ _ h => h⟩
set_option maxRecDepth 100000 in
set_option maxHeartbeats 4000000 in
theorem act_52 {w : World} {p : Pl} {M M2 : Md} (h : RP w p M) (ha : M.acts < 100000) (call name : Bs) (caps : Array Value) (c : Int)
    (hdo : ∀ W, Kp (fun b => b = p.d) w W → RP W p M.act1 → Calls Try.prog 52 caps W fun e w' => e = .returned (.int .i64 c) ∧ ∃ p', RP w' p' M2 ∧ Aft W w' p p') :
    Calls Try.prog 51 #[pv p.d, sv call, sv name, .func (.func 52) #[] caps] w fun e w' => ∃ v, e = .returned v ∧ ErrV w' v call name (actR M (c, M2)).1 ∧ ∃ p', RP w' p' (actR M (c, M2)).2 ∧ Aft w w' p p' := by
  have h62 := begin_62 h ha
  have HR := Lib.hid h
  have HDO := Lib.hid hdo
  clear h hdo
  obtain ⟨f, hf⟩ : ∃ f, fvo (M.plan ((M.acts + 1 : Nat) : Int)) = f := ⟨_, rfl⟩
  unfold actR
  rw [hf] at h62 ⊢
  clear hf
  simp only
  go_enter Try.func51, Try.ntmps51
  go_wp2_with (first
    | (go_at_call 62; go_must (refine h62.mono ?_); rintro e w1 ⟨rfl, hp1, hk1⟩; (have h63 := bear_52 hp1 f caps c (fun W gW => HDO.out W (hk1.step gW (by simp)) (hp1.gb gW))); (have HK1 := Lib.hid hk1); clear hp1 hk1 h62)
    | (go_at_call 63; go_must (refine h63.mono ?_); rintro e w2 ⟨rfl, p2, hp2, ha2⟩; (have h30 := refusal_30 call name (bearR f.kind c M.act1 M2).1 w2); (have HP2 := Lib.hid (And.intro hp2 ha2)); clear hp2 ha2 h63)
    | (go_at_call 30; go_must (refine h30.mono ?_); rintro e w3 ⟨v, rfl, hv, g3⟩; (have HV := Lib.hid (And.intro hv g3)); clear hv g3 h30))
  go_ret
  refine ⟨v, rfl, HV.out.1, p2, HP2.out.1.gb HV.out.2, ((Aft.kp1 HR.out HK1.out).trans HP2.out.2).trans (Aft.of HV.out.2)⟩

set_option maxRecDepth 100000 in
theorem clo_52 {w : World} {p : Pl} {M : Md} (h : RP w p M) (s : Bs) (hl : s.length ≤ 9223372036854775807) (hf : M.files.length < M.acts) (hc : M.ch.length < M.acts) {b1 b2 : Nat} (hb1 : Box w 25 b1 #[pv p.d]) (hb2 : Box w 9 b2 #[sv s]) :
    Calls Try.prog 52 #[pv b1, pv b2] w fun e w' => e = .returned (.int .i64 (doC M s).1) ∧ ∃ p', RP w' p' (doC M s).2 ∧ Aft w w' p p' := by
  have h53 : Calls Try.prog 53 #[pv p.d, sv s] w fun e w' => e = .returned (.int .i64 (doC M s).1) ∧ ∃ p', RP w' p' (doC M s).2 ∧ Aft w w' p p' := by
    unfold doC
    by_cases hs : okN s = true
    · rw [if_pos hs]
      cases hn : M.names s with
      | none => exact create_new h s hs hn hf hc
      | some k =>
        refine (create_there h s hl hs hn).mono ?_
        rintro e w' ⟨rfl, rfl⟩
        exact ⟨rfl, p, h, Aft.refl _ _⟩
    · rw [if_neg hs]
      refine (create_bad h s hl (by simpa using hs)).mono ?_
      rintro e w' ⟨rfl, rfl⟩
      exact ⟨rfl, p, h, Aft.refl _ _⟩
  have c1 : w.cell? ⟨b1, 0, none⟩ = some (pv p.d) := hb1.cell 0
  have c2 : w.cell? ⟨b2, 0, none⟩ = some (sv s) := hb2.cell 0
  clear h hb1 hb2
  generalize doC M s = r at *
  go_enter Try.func52, Try.ntmps52
  go_wp2_with (go_at_call 53; go_must (refine h53.mono ?_); rintro e w1 ⟨rfl, hp⟩)
  go_ret
  exact ⟨rfl, hp⟩
end Go.Proofs.Ytndjimdegkdljaa
/-
  Create, Remove, Sync.
-/
namespace Go.Proofs.Ytndjimdegkdljaa
open Go.RowKit Go.MapKept
set_option linter.unusedVariables false
set_option linter.unusedSimpArgs false
attribute [local go_sem] Oper.semAt_some

set_option maxRecDepth 100000 in
set_option maxHeartbeats 4000000 in
theorem act_55 {w : World} {p : Pl} {M M2 : Md} (h : RP w p M) (ha : M.acts < 100000) (call name : Bs) (caps : Array Value) (c : Int)
    (hdo : ∀ W, Kp (fun b => b = p.d) w W → RP W p M.act1 → Calls Try.prog 55 caps W fun e w' => e = .returned (.int .i64 c) ∧ ∃ p', RP w' p' M2 ∧ Aft W w' p p') :
    Calls Try.prog 51 #[pv p.d, sv call, sv name, .func (.func 55) #[] caps] w fun e w' => ∃ v, e = .returned v ∧ ErrV w' v call name (actR M (c, M2)).1 ∧ ∃ p', RP w' p' (actR M (c, M2)).2 ∧ Aft w w' p p' := by
  have h62 := begin_62 h ha
  have HR := Lib.hid h
  have HDO := Lib.hid hdo
  clear h hdo
  obtain ⟨f, hf⟩ : ∃ f, fvo (M.plan ((M.acts + 1 : Nat) : Int)) = f := ⟨_, rfl⟩
  unfold actR
  rw [hf] at h62 ⊢
  clear hf
  simp only
  go_enter Try.func51, Try.ntmps51
  go_wp2_with (first
    | (go_at_call 62; go_must (refine h62.mono ?_); rintro e w1 ⟨rfl, hp1, hk1⟩; (have h63 := bear_55 hp1 f caps c (fun W gW => HDO.out W (hk1.step gW (by simp)) (hp1.gb gW))); (have HK1 := Lib.hid hk1); clear hp1 hk1 h62)
    | (go_at_call 63; go_must (refine h63.mono ?_); rintro e w2 ⟨rfl, p2, hp2, ha2⟩; (have h30 := refusal_30 call name (bearR f.kind c M.act1 M2).1 w2); (have HP2 := Lib.hid (And.intro hp2 ha2)); clear hp2 ha2 h63)
    | (go_at_call 30; go_must (refine h30.mono ?_); rintro e w3 ⟨v, rfl, hv, g3⟩; (have HV := Lib.hid (And.intro hv g3)); clear hv g3 h30))
  go_ret
  refine ⟨v, rfl, HV.out.1, p2, HP2.out.1.gb HV.out.2, ((Aft.kp1 HR.out HK1.out).trans HP2.out.2).trans (Aft.of HV.out.2)⟩
set_option maxRecDepth 100000 in
set_option maxHeartbeats 4000000 in
theorem act_58 {w : World} {p : Pl} {M M2 : Md} (h : RP w p M) (ha : M.acts < 100000) (call name : Bs) (caps : Array Value) (c : Int)
    (hdo : ∀ W, Kp (fun b => b = p.d) w W → RP W p M.act1 → Calls Try.prog 58 caps W fun e w' => e = .returned (.int .i64 c) ∧ ∃ p', RP w' p' M2 ∧ Aft W w' p p') :
    Calls Try.prog 51 #[pv p.d, sv call, sv name, .func (.func 58) #[] caps] w fun e w' => ∃ v, e = .returned v ∧ ErrV w' v call name (actR M (c, M2)).1 ∧ ∃ p', RP w' p' (actR M (c, M2)).2 ∧ Aft w w' p p' := by
  have h62 := begin_62 h ha
  have HR := Lib.hid h
  have HDO := Lib.hid hdo
  clear h hdo
  obtain ⟨f, hf⟩ : ∃ f, fvo (M.plan ((M.acts + 1 : Nat) : Int)) = f := ⟨_, rfl⟩
  unfold actR
  rw [hf] at h62 ⊢
  clear hf
  simp only
  go_enter Try.func51, Try.ntmps51
  go_wp2_with (first
    | (go_at_call 62; go_must (refine h62.mono ?_); rintro e w1 ⟨rfl, hp1, hk1⟩; (have h63 := bear_58 hp1 f caps c (fun W gW => HDO.out W (hk1.step gW (by simp)) (hp1.gb gW))); (have HK1 := Lib.hid hk1); clear hp1 hk1 h62)
    | (go_at_call 63; go_must (refine h63.mono ?_); rintro e w2 ⟨rfl, p2, hp2, ha2⟩; (have h30 := refusal_30 call name (bearR f.kind c M.act1 M2).1 w2); (have HP2 := Lib.hid (And.intro hp2 ha2)); clear hp2 ha2 h63)
    | (go_at_call 30; go_must (refine h30.mono ?_); rintro e w3 ⟨v, rfl, hv, g3⟩; (have HV := Lib.hid (And.intro hv g3)); clear hv g3 h30))
  go_ret
  refine ⟨v, rfl, HV.out.1, p2, HP2.out.1.gb HV.out.2, ((Aft.kp1 HR.out HK1.out).trans HP2.out.2).trans (Aft.of HV.out.2)⟩

set_option maxRecDepth 100000 in
set_option maxHeartbeats 4000000 in
theorem clo_55 {w : World} {p : Pl} {M : Md} (h : RP w p M) (s : Bs) (hl : s.length ≤ 9223372036854775807) (hc : M.ch.length < M.acts) {b1 b2 : Nat} (hb1 : Box w 25 b1 #[pv p.d]) (hb2 : Box w 9 b2 #[sv s]) :
    Calls Try.prog 55 #[pv b1, pv b2] w fun e w' => e = .returned (.int .i64 (doRm M s).1) ∧ ∃ p', RP w' p' (doRm M s).2 ∧ Aft w w' p p' := by
  have c1 : w.cell? ⟨b1, 0, none⟩ = some (pv p.d) := hb1.cell 0
  have c2 : w.cell? ⟨b2, 0, none⟩ = some (sv s) := hb2.cell 0
  clear hb1 hb2
  have HR := Lib.hid h
  unfold doRm
  by_cases hs : okN s = true
  · rw [if_pos hs]
    cases hn : M.names s with
    | none =>
      have h56 := find_none h s hl hs hn
      clear h
      simp only
      go_enter Try.func55, Try.ntmps55
      go_wp2_with (go_at_call 56; go_must (refine h56.mono ?_); rintro e w1 ⟨rfl, hw1⟩; have hw2 := hw1.symm; subst hw2)
      go_ret
      exact ⟨rfl, p, HR.out, Aft.refl _ _⟩
    | some k =>
      have h56 := find_some h s hl hs hn
      have hl2 : 1 ≤ s.length ∧ s.length ≤ 32 := by simpa [okN] using hs
      have hs0 : s ≠ [] := fun e => by rw [e] at hl2; simp at hl2
      have h57 := change_rp h ⟨s, [], k⟩ hs0 hn (by simp) hl2.2 hc
      clear h
      simp only at h57 ⊢
      go_enter Try.func55, Try.ntmps55
      go_wp2_with (first
        | (go_at_call 56; go_must (refine h56.mono ?_); rintro e w1 ⟨rfl, hw1⟩; have hw2 := hw1.symm; subst hw2)
        | (go_at_call 57; go_must (refine h57.mono ?_); rintro e w1 ⟨rfl, hp⟩))
      go_ret
      exact ⟨rfl, hp⟩
  · rw [if_neg hs]
    have h56 := find_no h s hl (by simpa using hs)
    clear h
    simp only
    go_enter Try.func55, Try.ntmps55
    go_wp2_with (go_at_call 56; go_must (refine h56.mono ?_); rintro e w1 ⟨rfl, hw1⟩; have hw2 := hw1.symm; subst hw2)
    go_ret
    exact ⟨rfl, p, HR.out, Aft.refl _ _⟩
set_option maxRecDepth 100000 in
set_option maxHeartbeats 4000000 in
theorem clo_58 {w : World} {p : Pl} {M : Md} (h : RP w p M) (s : Bs) (hl : s.length ≤ 9223372036854775807) {b1 b2 : Nat} (hb1 : Box w 25 b1 #[pv p.d]) (hb2 : Box w 9 b2 #[sv s]) :
    Calls Try.prog 58 #[pv b1, pv b2] w fun e w' => e = .returned (.int .i64 (doSy M s).1) ∧ ∃ p', RP w' p' (doSy M s).2 ∧ Aft w w' p p' := by
  have c1 : w.cell? ⟨b1, 0, none⟩ = some (pv p.d) := hb1.cell 0
  have c2 : w.cell? ⟨b2, 0, none⟩ = some (sv s) := hb2.cell 0
  clear hb1 hb2
  have HR := Lib.hid h
  unfold doSy
  by_cases hs : okN s = true
  · rw [if_pos hs]
    cases hn : M.names s with
    | none =>
      have h56 := find_none h s hl hs hn
      clear h
      simp only
      go_enter Try.func58, Try.ntmps58
      go_wp2_with (go_at_call 56; go_must (refine h56.mono ?_); rintro e w1 ⟨rfl, hw1⟩; have hw2 := hw1.symm; subst hw2)
      go_ret
      exact ⟨rfl, p, HR.out, Aft.refl _ _⟩
    | some k =>
      have h56 := find_some h s hl hs hn
      have hr := Md.names_reach hn
      have hk := reach_lt h.ok hr
      obtain ⟨f, hf⟩ : ∃ f, M.files[k]? = some f := ⟨_, List.getElem?_eq_getElem hk⟩
      have hfl := h.fl k f hr hf
      have hbd := h.ok.nb f (List.mem_of_getElem? hf)
      have hna := h.ok.na
      simp only [hf, Option.getD_some]
      obtain ⟨ao, cp, e, -⟩ := row_shape hfl.row
      have hbox := hfl.box
      rw [e] at hbox
      have q1 : w.cell? ⟨p.fb k, 1, none⟩ = some (.slice ao f.1.length cp) := hbox.cell 1
      have q2 : w.cell? ⟨p.fb k, 2, none⟩ = some (.int .i64 (f.2 : Int)) := hbox.cell 2
      have f2 : w.frozen? ⟨p.fb k, 2, none⟩ = false := hbox.fz 2
      have HF := Lib.hid (And.intro hfl (And.intro hbox (And.intro hbd (And.intro e hr))))
      clear h hfl hbox e hr hf hk hn
      generalize hg : p.fb k = g at *
      go_enter Try.func58, Try.ntmps58
      go_wp2_with (go_at_call 56; go_must (refine h56.mono ?_); rintro e w1 ⟨rfl, hw1⟩; have hw2 := hw1.symm; subst hw2)
      go_ret
      subst hg
      obtain ⟨hfl, hbox, hbd, e, hr⟩ := HF.out
      have gd : w.grownBy (w.setCell ⟨p.fb k, 2, none⟩ (.int .i64 (f.1.length : Int))) (some (p.fb k)) := gb_setCell (gb_refl _ _) _
      have hne : ∀ b, (p.rv k).ownBlock = some b → some b ≠ some (p.fb k) := fun b hb e2 => by
        have h1 := HR.out.cr k b hr hb
        rw [Option.some.inj e2, HR.out.cf k hr] at h1
        omega
      have := HR.out.filed (f := (f.1, f.1.length)) (v := p.rv k) hr (Nat.le_refl _) hbd (by rw [e]; exact hbox.set 2 _) (row_kept hfl.row gd hne) ((Kp.refl _ w).step gd (fun i hi => .inl (.inl (Option.some.inj hi).symm))) (fun b hb => .inl hb)
      exact ⟨rfl, _, this⟩
  · rw [if_neg hs]
    have h56 := find_no h s hl (by simpa using hs)
    clear h
    simp only
    go_enter Try.func58, Try.ntmps58
    go_wp2_with (go_at_call 56; go_must (refine h56.mono ?_); rintro e w1 ⟨rfl, hw1⟩; have hw2 := hw1.symm; subst hw2)
    go_ret
    exact ⟨rfl, p, HR.out, Aft.refl _ _⟩
set_option maxRecDepth 100000 in
set_option maxHeartbeats 4000000 in
theorem create_13 {w : World} {p : Pl} {M : Md} (h : RP w p M) (ha : M.acts < 100000) (s : Bs) (hl : s.length ≤ 9223372036854775807) :
    Calls Try.prog 13 #[pv p.d, sv s] w fun e w' => ∃ v, e = .returned v ∧ ErrV w' v [99, 114, 101, 97, 116, 101] s (actR M (doC M.act1 s)).1 ∧ ∃ p', RP w' p' (actR M (doC M.act1 s)).2 ∧ Aft w w' p p' := by
  have hnf := h.ok.nf
  have hnc := h.ok.nc
  have g1 := gb_alloc (gb_refl w none) (.cells #[pv p.d] 25)
  have g2 := gb_alloc g1 (.cells #[sv s] 9)
  have B1 : Box ((w.alloc (.cells #[pv p.d] 25)).alloc (.cells #[sv s] 9)) 25 w.heap.size #[pv p.d] := (Box.new w 25 _).kept (gb_alloc (gb_refl _ none) _) (by simp)
  have B2 : Box ((w.alloc (.cells #[pv p.d] 25)).alloc (.cells #[sv s] 9)) 9 (w.heap.size + 1) #[sv s] := by
    have := Box.new (w.alloc (.cells #[pv p.d] 25)) 9 #[sv s]
    rwa [show (w.alloc (.cells #[pv p.d] 25)).heap.size = w.heap.size + 1 by simp] at this
  have hlt := h.lt p.d (by rw [h.cd]; decide)
  have h51 := act_52 (h.gb g2) ha [99, 114, 101, 97, 116, 101] s #[pv w.heap.size, pv (w.heap.size + 1)] (doC M.act1 s).1 (M2 := (doC M.act1 s).2) (fun W hk hp => clo_52 hp s hl (Nat.lt_succ_of_le hnf) (Nat.lt_succ_of_le hnc) (hk.box B1 (by omega)) (hk.box B2 (by omega)))
  have HA := Lib.hid (Aft.of (p := p) g2)
  clear h g1 g2 B1 B2
  generalize doC M.act1 s = r at *
  go_enter Try.func13, Try.ntmps13
  go_wp2_with (go_at_call 51; go_must (refine h51.mono ?_); rintro e w1 ⟨v, rfl, hv, p', hp, hA⟩)
  go_ret
  exact ⟨v, rfl, hv, p', hp, HA.out.trans hA⟩
set_option maxRecDepth 100000 in
set_option maxHeartbeats 4000000 in
theorem remove_15 {w : World} {p : Pl} {M : Md} (h : RP w p M) (ha : M.acts < 100000) (s : Bs) (hl : s.length ≤ 9223372036854775807) :
    Calls Try.prog 15 #[pv p.d, sv s] w fun e w' => ∃ v, e = .returned v ∧ ErrV w' v [114, 101, 109, 111, 118, 101] s (actR M (doRm M.act1 s)).1 ∧ ∃ p', RP w' p' (actR M (doRm M.act1 s)).2 ∧ Aft w w' p p' := by
  have hnf := h.ok.nf
  have hnc := h.ok.nc
  have g1 := gb_alloc (gb_refl w none) (.cells #[pv p.d] 25)
  have g2 := gb_alloc g1 (.cells #[sv s] 9)
  have B1 : Box ((w.alloc (.cells #[pv p.d] 25)).alloc (.cells #[sv s] 9)) 25 w.heap.size #[pv p.d] := (Box.new w 25 _).kept (gb_alloc (gb_refl _ none) _) (by simp)
  have B2 : Box ((w.alloc (.cells #[pv p.d] 25)).alloc (.cells #[sv s] 9)) 9 (w.heap.size + 1) #[sv s] := by
    have := Box.new (w.alloc (.cells #[pv p.d] 25)) 9 #[sv s]
    rwa [show (w.alloc (.cells #[pv p.d] 25)).heap.size = w.heap.size + 1 by simp] at this
  have hlt := h.lt p.d (by rw [h.cd]; decide)
  have h51 := act_55 (h.gb g2) ha [114, 101, 109, 111, 118, 101] s #[pv w.heap.size, pv (w.heap.size + 1)] (doRm M.act1 s).1 (M2 := (doRm M.act1 s).2) (fun W hk hp => clo_55 hp s hl (Nat.lt_succ_of_le hnc) (hk.box B1 (by omega)) (hk.box B2 (by omega)))
  have HA := Lib.hid (Aft.of (p := p) g2)
  clear h g1 g2 B1 B2
  generalize doRm M.act1 s = r at *
  go_enter Try.func15, Try.ntmps15
  go_wp2_with (go_at_call 51; go_must (refine h51.mono ?_); rintro e w1 ⟨v, rfl, hv, p', hp, hA⟩)
  go_ret
  exact ⟨v, rfl, hv, p', hp, HA.out.trans hA⟩
set_option maxRecDepth 100000 in
set_option maxHeartbeats 4000000 in
theorem sync_17 {w : World} {p : Pl} {M : Md} (h : RP w p M) (ha : M.acts < 100000) (s : Bs) (hl : s.length ≤ 9223372036854775807) :
    Calls Try.prog 17 #[pv p.d, sv s] w fun e w' => ∃ v, e = .returned v ∧ ErrV w' v [115, 121, 110, 99] s (actR M (doSy M.act1 s)).1 ∧ ∃ p', RP w' p' (actR M (doSy M.act1 s)).2 ∧ Aft w w' p p' := by
  have hnf := h.ok.nf
  have hnc := h.ok.nc
  have g1 := gb_alloc (gb_refl w none) (.cells #[pv p.d] 25)
  have g2 := gb_alloc g1 (.cells #[sv s] 9)
  have B1 : Box ((w.alloc (.cells #[pv p.d] 25)).alloc (.cells #[sv s] 9)) 25 w.heap.size #[pv p.d] := (Box.new w 25 _).kept (gb_alloc (gb_refl _ none) _) (by simp)
  have B2 : Box ((w.alloc (.cells #[pv p.d] 25)).alloc (.cells #[sv s] 9)) 9 (w.heap.size + 1) #[sv s] := by
    have := Box.new (w.alloc (.cells #[pv p.d] 25)) 9 #[sv s]
    rwa [show (w.alloc (.cells #[pv p.d] 25)).heap.size = w.heap.size + 1 by simp] at this
  have hlt := h.lt p.d (by rw [h.cd]; decide)
  have h51 := act_58 (h.gb g2) ha [115, 121, 110, 99] s #[pv w.heap.size, pv (w.heap.size + 1)] (doSy M.act1 s).1 (M2 := (doSy M.act1 s).2) (fun W hk hp => clo_58 hp s hl  (hk.box B1 (by omega)) (hk.box B2 (by omega)))
  have HA := Lib.hid (Aft.of (p := p) g2)
  clear h g1 g2 B1 B2
  generalize doSy M.act1 s = r at *
  go_enter Try.func17, Try.ntmps17
  go_wp2_with (go_at_call 51; go_must (refine h51.mono ?_); rintro e w1 ⟨v, rfl, hv, p', hp, hA⟩)
  go_ret
  exact ⟨v, rfl, hv, p', hp, HA.out.trans hA⟩
end Go.Proofs.Ytndjimdegkdljaa
