/-
  A disk behind a restart: its names are those that are safe.
-/
import Derived.Test.YtndjimdegkdljaaZh
import Derived.Test.YtndjimdegkdljaaY
namespace Go.Proofs.Ytndjimdegkdljaa
open Go.RowKit Go.MapKept
set_option linter.unusedVariables false
set_option linter.unusedSimpArgs false

def Pl.again (p : Pl) (b' : Nat) : Pl := { p with bn := b', cv := .slice none 0 0, col := fun b => if b = b' then 2 else p.col b }
theorem RP.restarted {w w' : World} {p : Pl} {M : Md} {n b' : Nat} (h : RP w p M) (hN : NmM w' p.bs p.fb (after M.safe (M.ch.take n))) (hN2 : NmM w' b' p.fb (after M.safe (M.ch.take n)))
    (hB : Box w' 75 p.d #[.int .i64 M.space, .int .i64 (M.acts : Int), .int .i64 (M.files.length : Int), .bool (!M.dark), p.pl, .map (some b'), .map (some p.bs), .slice none 0 0]) (hK : Kp (fun b => b = p.d ∨ b = p.bs) w w') (hb : w.heap.size ≤ b') :
    RP w' (p.again b') (M.settle n) ∧ Aft w w' p (p.again b') := by
  have nbk : ∀ b, p.col b ≠ 0 → p.col b ≠ 1 → p.col b ≠ 3 → w'.heap[b]? = w.heap[b]? := fun b h0 h1 h3 => hK.block b (h.lt b h0) (by
    rintro (e | e)
    · exact h1 (by rw [e, h.cd])
    · exact h3 (by rw [e, h.cs]))
  have hcol : ∀ b, p.col b ≠ 0 → (p.again b').col b = p.col b := fun b h0 => by
    have := h.lt b h0
    show (if b = b' then 2 else p.col b) = _
    rw [if_neg (by omega)]
  refine ⟨?_, ?_⟩
  · exact {
      box := hB
      nm := hN2
      sf := hN
      pl := h.pl.same (fun b hb => nbk b (by rw [h.cp b hb]; decide) (by rw [h.cp b hb]; decide) (by rw [h.cp b hb]; decide))
      ch := World.ownsRow_nil _ _ _ _
      fl := fun k f hr hf => by
        have hr := settle_reach hr
        have hfl := h.fl k f hr hf
        exact ⟨(nbk (p.fb k) (by rw [h.cf k hr]; omega) (by rw [h.cf k hr]; omega) (by rw [h.cf k hr]; omega)).trans hfl.box, row_same hfl.row (fun b hb => nbk b (by rw [h.cr k b hr hb]; omega) (by rw [h.cr k b hr hb]; omega) (by rw [h.cr k b hr hb]; omega))⟩
      cd := by rw [show (p.again b').d = p.d from rfl, hcol _ (by rw [h.cd]; decide)]; exact h.cd
      cn := by show (if b' = b' then 2 else _) = 2; rw [if_pos rfl]
      cs := by rw [show (p.again b').bs = p.bs from rfl, hcol _ (by rw [h.cs]; decide)]; exact h.cs
      cp := fun b hb => by rw [hcol _ (by rw [h.cp b hb]; decide)]; exact h.cp b hb
      cc := fun b hb => by simp [Pl.again, Value.ownBlock] at hb
      cf := fun k hr => by have hr := settle_reach hr; rw [show (p.again b').fb = p.fb from rfl, hcol _ (by rw [h.cf k hr]; omega)]; exact h.cf k hr
      cr := fun k b hr hb => by have hr := settle_reach hr; rw [hcol _ (by rw [h.cr k b hr hb]; omega)]; exact h.cr k b hr hb
      lt := fun b hb => by
        have hb' : (if b = b' then 2 else p.col b) ≠ 0 := hb
        by_cases e : b = b'
        · rw [e]; exact hN2.lt
        · rw [if_neg e] at hb'
          exact Nat.lt_of_lt_of_le (h.lt b hb') hK.size
      ok := h.ok.settle _ }
  · refine ⟨hK.mono (fun b hb => .inl ?_), rfl, fun b hl hb2 => ?_⟩
    · rcases hb with e | e
      · rw [e, h.cd]; decide
      · rw [e, h.cs]; decide
    · have hb' : (if b = b' then 2 else p.col b) ≠ 0 := hb2
      rwa [if_neg (by omega)] at hb'
/-- The power on, and no plan. -/
def Md.wake (M : Md) : Md := { M with dark := false, plan := fun _ => none }
theorem Md.Ok.wake {M : Md} (h : M.Ok) : M.wake.Ok := ⟨h.s0, h.s1, h.sf, h.cf, h.cs, h.fl, h.nf, h.nc, h.na, h.nb⟩
def Pl.wake (p : Pl) : Pl := { p with pl := .map none }
theorem RP.woken {w : World} {p : Pl} {M : Md} (h : RP w p M) :
    RP ((w.setCell ⟨p.d, 3, none⟩ (.bool true)).setCell ⟨p.d, 4, none⟩ (.map none)) p.wake M.wake ∧ Aft w ((w.setCell ⟨p.d, 3, none⟩ (.bool true)).setCell ⟨p.d, 4, none⟩ (.map none)) p p.wake := by
  have g : w.grownBy ((w.setCell ⟨p.d, 3, none⟩ (.bool true)).setCell ⟨p.d, 4, none⟩ (.map none)) (some p.d) := gb_setCell (gb_setCell (gb_refl _ _) _) _
  have hK : Kp (fun b => b = p.d) w ((w.setCell ⟨p.d, 3, none⟩ (.bool true)).setCell ⟨p.d, 4, none⟩ (.map none)) := (Kp.refl _ w).step g (fun i hi => .inl (Option.some.inj hi).symm)
  have nbk : ∀ b, p.col b ≠ 0 → p.col b ≠ 1 → ((w.setCell ⟨p.d, 3, none⟩ (.bool true)).setCell ⟨p.d, 4, none⟩ (.map none)).heap[b]? = w.heap[b]? := fun b h0 h1 => hK.block b (h.lt b h0) (fun e => h1 (by rw [e, h.cd]))
  refine ⟨?_, ?_⟩
  · exact {
      box := (h.box.set 3 _).set 4 _
      nm := h.nm.same (nbk _ (by rw [h.cn]; decide) (by rw [h.cn]; decide))
      sf := h.sf.same (nbk _ (by rw [h.cs]; decide) (by rw [h.cs]; decide))
      pl := .inl ⟨rfl, fun _ => rfl⟩
      ch := row_same h.ch (fun b hb => nbk b (by rw [h.cc b hb]; decide) (by rw [h.cc b hb]; decide))
      fl := fun k f hr hf => by
        have hr : Reach M k := hr
        have hfl := h.fl k f hr hf
        exact ⟨(nbk (p.fb k) (by rw [h.cf k hr]; omega) (by rw [h.cf k hr]; omega)).trans hfl.box, row_same hfl.row (fun b hb => nbk b (by rw [h.cr k b hr hb]; omega) (by rw [h.cr k b hr hb]; omega))⟩
      cd := h.cd
      cn := h.cn
      cs := h.cs
      cp := fun b hb => by cases hb
      cc := h.cc
      cf := h.cf
      cr := h.cr
      lt := fun b hb => Nat.lt_of_lt_of_le (h.lt b hb) hK.size
      ok := h.ok.wake }
  · refine ⟨hK.mono (fun b hb => .inl ?_), rfl, fun b hl hb => hb⟩
    rw [hb, h.cd]; decide
end Go.Proofs.Ytndjimdegkdljaa
