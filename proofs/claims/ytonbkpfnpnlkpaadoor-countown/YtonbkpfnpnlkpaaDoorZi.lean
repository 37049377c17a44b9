/-
  A Book of lists of numbers: Close.
-/
import Derived.Test.YtonbkpfnpnlkpaaDoorZh
namespace Go.Proofs.YtonbkpfnpnlkpaaDoor
open Go.RowKit
set_option linter.unusedVariables false
set_option linter.unusedSimpArgs false

set_option maxRecDepth 100000 in
set_option maxHeartbeats 4000000 in
theorem close_32 {w : World} {bb : Nat} {FB : Nat → Prop} {hv wv : Value} {n : Int} {K : Nat} {V W : Nat → Value} {D : Nat → List Int} (h : Bk w bb FB hv wv n K V W D) (hK : K < 5000) :
    Calls Tryd.prog 32 #[.pointer (some ⟨bb, 0, none⟩)] w fun y w' => y = .returned (.bool true) ∧ Kp FB w w' := by
  have h48 := stands_49 h hK
  go_enter Tryd.func32, Tryd.ntmps32
  go_wp2_with (go_at_call 49; go_must (refine h48.mono ?_))
  rintro y w1 ⟨rfl, hg1⟩
  have h1 := h.kept0 hg1
  have h50 := close_50 h1.box
  have h51 := close_51 h1 hK
  have HG : Hid (Kp FB w w1) := (Kp.refl _ _).step hg1 (by simp)
  clear h48 h1 h hg1
  go_wp2_with (first | (go_at_call 50; go_must (refine h50.mono ?_); rintro y w2 ⟨rfl, hw2⟩; subst hw2) | (go_at_call 51; go_must (refine h51.mono ?_)))
  rintro y w5 ⟨rfl, hk5, hv', ov', mv', hb5⟩
  have h52 := close_52 hb5
  have h53 := close_53 hb5
  have h54 := close_54 hb5
  have h55 := close_55 hb5
  have h56 := close_56 hb5
  have HP : Hid (Kp FB w w5) := HG.out.trans hk5 (fun _ h => h) (fun _ h => .inl h)
  clear h50 h51 hk5 hb5 HG
  go_wp2_with (first | (go_at_call 52; go_must (refine h52.mono ?_); rintro y w6 ⟨rfl, hw6⟩; subst hw6) | (go_at_call 53; go_must (refine h53.mono ?_); rintro y w7 ⟨rfl, hw7⟩; subst hw7) | (go_at_call 54; go_must (refine h54.mono ?_); rintro y w8 ⟨rfl, hw8⟩; subst hw8) | (go_at_call 55; go_must (refine h55.mono ?_); rintro y w9 ⟨rfl, hw9⟩; subst hw9) | (go_at_call 56; go_must (refine h56.mono ?_); rintro y w10 ⟨rfl, hw10⟩; subst hw10))
  go_ret
  exact ⟨rfl, HP.out⟩

end Go.Proofs.YtonbkpfnpnlkpaaDoor
