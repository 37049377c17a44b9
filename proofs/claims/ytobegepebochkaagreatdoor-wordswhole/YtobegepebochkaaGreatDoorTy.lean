import Derived.Test.YtobegepebochkaaGreatDoorTx
/-
  Feeders and what is written.
-/
namespace Go.Proofs.YtobegepebochkaaGreatDoor
open Go.RowKit Go.Maps
set_option linter.unusedVariables false
set_option linter.unusedSimpArgs false

/-- A Feeder at fb whose other block is at or above B. -/
def FX (B : Nat) (w : World) (fb : Nat) (F : Fd) : Prop := ∃ kv, IsF w fb F kv ∧ ∀ k, kv.ownBlock = some k → B ≤ k
theorem FX.kept0 {B : Nat} {w w' : World} {fb : Nat} {F : Fd} (h : FX B w fb F) (hf : w.grownBy w' none) : FX B w' fb F := by
  obtain ⟨kv, h1, h3⟩ := h
  exact ⟨kv, h1.kept0 hf, h3⟩
theorem FX.lt {B : Nat} {w : World} {fb : Nat} {F : Fd} (h : FX B w fb F) : fb < w.heap.size := by
  obtain ⟨kv, ⟨_, _, _, _, _, hx, -, -⟩, -⟩ := h
  exact hx.box.lt
theorem FX.held {B : Nat} {w : World} {fb : Nat} {F : Fd} (h : FX B w fb F) :
    Calls Tryz.prog 50 #[.pointer (some ⟨fb, 0, none⟩)] w fun e w' => e = .returned (.int .i64 (F.kept.length : Int)) ∧ w' = w := by
  obtain ⟨kv, ⟨hd, lf, ck, cd, cm, hx, -, -⟩, -⟩ := h
  obtain ⟨ao, cp, e, -, -, -, -⟩ := row_shape hx.kept
  exact held_50 hx.box e
theorem FX.taken {B : Nat} {w : World} {fb : Nat} {F : Fd} (h : FX B w fb F) :
    Calls Tryz.prog 52 #[.pointer (some ⟨fb, 0, none⟩)] w fun e w' => e = .returned (.int .i64 F.taken) ∧ w' = w := by
  obtain ⟨kv, ⟨hd, lf, ck, cd, cm, hx, -, -⟩, -⟩ := h
  exact taken_52 hx.box
theorem FX.ended {B : Nat} {w : World} {fb : Nat} {F : Fd} (h : FX B w fb F) :
    Calls Tryz.prog 51 #[.pointer (some ⟨fb, 0, none⟩)] w fun e w' => e = .returned (.bool F.ended) ∧ w' = w := by
  obtain ⟨kv, ⟨hd, lf, ck, cd, cm, hx, -, -⟩, -⟩ := h
  exact ended_51 hx.box
/-- The blocks that a Feeder writes, or that are new. -/
abbrev XB (B fb : Nat) : Nat → Prop := fun k => k = fb ∨ B ≤ k
theorem FX.feed {B : Nat} {w : World} {fb : Nat} {F : Fd} (h : FX B w fb F) (hB : 3 < B) (hfb : 3 < fb) (hBw : B ≤ w.heap.size) (hok : F.Ok) {v : Value} {l : Bs} (hv : Ck w (XB B fb) v l) (hl2 : l.length ≤ 34359738368) (ht : F.taken + l.length ≤ 2199023255552) (hE : Er w) :
    Calls Tryz.prog 45 #[.pointer (some ⟨fb, 0, none⟩), v] w fun e w' => ∃ rv q, e = .returned rv ∧ FX B w' fb (F.run l).1 ∧ (∃ X, Ss w' w.heap.size X rv q) ∧ q.map Tld.s = (F.run l).2 ∧ Kp (XB B fb) w w' ∧ Er w' := by
  obtain ⟨kv, hF, h3⟩ := id h
  have hX : ∀ n, n ≤ 3 → ¬ XF fb kv n := by
    rintro n hn (e | e)
    · omega
    · have := h3 n e; omega
  have hXX : ∀ k, XF fb kv k → XB B fb k := by
    rintro k (e | e)
    · exact .inl e
    · exact .inr (h3 k e)
  refine (feed_45 hF hok (hv.kp (Kp.refl (fun _ => False) w) (fun _ _ h => h.elim) (fun k _ h => hXX k h)) hl2 ht hE ⟨hX 2 (by omega), hX 3 (by omega)⟩ (read_136 fb)).mono ?_
  rintro e w' ⟨rv, kv', q, rfl, q1, q2, q3, q4, q5, -⟩
  have k4 : Kp (XB B fb) w w' := q4.mono (fun i hi => .inl (hXX i hi))
  refine ⟨rv, q, rfl, ⟨kv', q1, fun k hk => ?_⟩, ⟨_, q2⟩, q3, k4, hE.kp k4 ?_ ?_⟩
  · rcases q5 k hk with e | e
    · exact h3 k e
    · omega
  · rintro (e | e) <;> omega
  · rintro (e | e) <;> omega
end Go.Proofs.YtobegepebochkaaGreatDoor
