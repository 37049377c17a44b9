/-
  Acts: a file made, taken away, made safe, as calls of a disk.
-/
import Derived.Test.YtndjimdegkdljaaI
import Derived.Test.YtndjimdegkdljaaJ
namespace Go.Proofs.Ytndjimdegkdljaa
open Go.RowKit Go.MapKept
set_option linter.unusedVariables false
set_option linter.unusedSimpArgs false
attribute [local go_sem] Oper.semAt_some

def Md.act1 (M : Md) : Md := { M with acts := M.acts + 1 }
/-- What an act answers and leaves, if the act itself answers and leaves r. -/
def actR (M : Md) (r : Int × Md) : Int × Md := bearR (fvo (M.plan ((M.acts + 1 : Nat) : Int))).kind r.1 M.act1 r.2
def doC (M : Md) (s : Bs) : Int × Md := if okN s = true then (match M.names s with | some _ => (183, M) | none => (0, M.create s)) else (186, M)
def doRm (M : Md) (s : Bs) : Int × Md := if okN s = true then (match M.names s with | some k => (0, M.chg ⟨s, [], k⟩) | none => (182, M)) else (186, M)
def doSy (M : Md) (s : Bs) : Int × Md := if okN s = true then (match M.names s with | some k => (0, M.put k ((M.files[k]?.getD ([], 0)).1, (M.files[k]?.getD ([], 0)).1.length)) | none => (182, M)) else (186, M)
theorem Aft.kp1 {w w' : World} {p : Pl} {M : Md} (h : RP w p M) (hk : Kp (fun b => b = p.d) w w') : Aft w w' p p :=
  ⟨hk.mono (fun b hb => .inl (by rw [hb, h.cd]; decide)), rfl, fun _ _ h => h⟩
set_option maxRecDepth 100000 in
set_option maxHeartbeats 4000000 in
theorem act_52 {w : World} {p : Pl} {M M2 : Md} (h : RP w p M) (ha : M.acts < 100000) (call name : Bs) (caps : Array Value) (c : Int)
    (hdo : ∀ W, Kp (fun b => b = p.d) w W → RP W p M.act1 → Calls Try.prog 52 caps W fun e w' => e = .returned (.int .i64 c) ∧ ∃ p', RP w' p' M2 ∧ Aft W w' p p') :
    Calls Try.prog 51 #[pv p.d, sv call, sv name, .func (.func 52) #[] caps] w fun e w' => ∃ v, e = .returned v ∧ ErrV w' v call name (actR M (c, M2)).1 ∧ ∃ p', RP w' p' (actR M (c, M2)).2 ∧ Aft w w' p p' := by
  have h62 := begin_62 h ha
  have HR := Lib.hid h
  have HDO := Lib.hid hdo
  clear h hdo
  obtain ⟨f, hf⟩ : ∃ f, fvo (M.plan ((M.acts + 1 : Nat) : Int)) = f := ⟨_, rfl⟩
  unfold actR
  rw [hf] at h62 ⊢
  clear hf
  simp only
  go_enter Try.func51, Try.ntmps51
  go_wp2_with (first
    | (go_at_call 62; go_must (refine h62.mono ?_); rintro e w1 ⟨rfl, hp1, hk1⟩; (have h63 := bear_52 hp1 f caps c (fun W gW => HDO.out W (hk1.step gW (by simp)) (hp1.gb gW))); (have HK1 := Lib.hid hk1); clear hp1 hk1 h62)
    | (go_at_call 63; go_must (refine h63.mono ?_); rintro e w2 ⟨rfl, p2, hp2, ha2⟩; (have h30 := refusal_30 call name (bearR f.kind c M.act1 M2).1 w2); (have HP2 := Lib.hid (And.intro hp2 ha2)); clear hp2 ha2 h63)
    | (go_at_call 30; go_must (refine h30.mono ?_); rintro e w3 ⟨v, rfl, hv, g3⟩; (have HV := Lib.hid (And.intro hv g3)); clear hv g3 h30))
  go_ret
  refine ⟨v, rfl, HV.out.1, p2, HP2.out.1.gb HV.out.2, ((Aft.kp1 HR.out HK1.out).trans HP2.out.2).trans (Aft.of HV.out.2)⟩

set_option maxRecDepth 100000 in
theorem clo_52 {w : World} {p : Pl} {M : Md} (h : RP w p M) (s : Bs) (hl : s.length ≤ 9223372036854775807) (hf : M.files.length < M.acts) (hc : M.ch.length < M.acts) {b1 b2 : Nat} (hb1 : Box w 25 b1 #[pv p.d]) (hb2 : Box w 9 b2 #[sv s]) :
    Calls Try.prog 52 #[pv b1, pv b2] w fun e w' => e = .returned (.int .i64 (doC M s).1) ∧ ∃ p', RP w' p' (doC M s).2 ∧ Aft w w' p p' := by
  have h53 : Calls Try.prog 53 #[pv p.d, sv s] w fun e w' => e = .returned (.int .i64 (doC M s).1) ∧ ∃ p', RP w' p' (doC M s).2 ∧ Aft w w' p p' := by
    unfold doC
    by_cases hs : okN s = true
    · rw [if_pos hs]
      cases hn : M.names s with
      | none => exact create_new h s hs hn hf hc
      | some k =>
        refine (create_there h s hl hs hn).mono ?_
        rintro e w' ⟨rfl, rfl⟩
        exact ⟨rfl, p, h, Aft.refl _ _⟩
    · rw [if_neg hs]
      refine (create_bad h s hl (by simpa using hs)).mono ?_
      rintro e w' ⟨rfl, rfl⟩
      exact ⟨rfl, p, h, Aft.refl _ _⟩
  have c1 : w.cell? ⟨b1, 0, none⟩ = some (pv p.d) := hb1.cell 0
  have c2 : w.cell? ⟨b2, 0, none⟩ = some (sv s) := hb2.cell 0
  clear h hb1 hb2
  generalize doC M s = r at *
  go_enter Try.func52, Try.ntmps52
  go_wp2_with (go_at_call 53; go_must (refine h53.mono ?_); rintro e w1 ⟨rfl, hp⟩)
  go_ret
  exact ⟨rfl, hp⟩
end Go.Proofs.Ytndjimdegkdljaa
