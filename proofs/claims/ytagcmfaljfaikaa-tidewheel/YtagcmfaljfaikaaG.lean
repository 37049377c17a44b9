/-
  rise.
-/
import Derived.Test.YtagcmfaljfaikaaF
namespace Go.Proofs.Ytagcmfaljfaikaa
open Go.RowKit
set_option linter.unusedVariables false

def enA (e : En) : Array Value := #[.int .u64 e.h, .int .i64 e.x, .int .i64 e.t]
theorem en_cells {w : World} {eb : Nat} {e : En} (h : Box w 123 eb (enA e)) : w.cell? ⟨eb, 0, none⟩ = some (.int .u64 e.h) ∧ w.cell? ⟨eb, 1, none⟩ = some (.int .i64 e.x) ∧ w.cell? ⟨eb, 2, none⟩ = some (.int .i64 e.t) := ⟨h.cell 0, h.cell 1, h.cell 2⟩
theorem par_int {g : Nat} (h : 0 < g) : ((g : Int) - 1).tdiv 2 = (par g : Nat) := by
  rw [Int.tdiv_eq_ediv_of_nonneg (by omega)]; unfold par; omega

/-- Where rise stands: the gap at g. -/
structure RSt (w wr : World) (t : TypeId) (b : Nat) (tl : List Value) (F : Nat → Prop) (rv : Value) (mb n : Nat) (r : Nat → En) (S : En → Prop) (g : Nat) (e : En) (eb c : Nat) (m : Int → Option Nat) : Prop where
  hp : IsHp wr t b tl F rv mb n r c m
  kp : Kp F w wr
  eb : Box wr 123 eb (enA e)
  gp : Gp n r S g e c m
theorem RSt.kept {w wr w' : World} {t : TypeId} {b : Nat} {tl : List Value} {F : Nat → Prop} {rv : Value} {mb n : Nat} {r : Nat → En} {S : En → Prop} {g : Nat} {e : En} {eb c : Nat} {m : Int → Option Nat}
    (h : RSt w wr t b tl F rv mb n r S g e eb c m) (hf : wr.grownBy w' none) : RSt w w' t b tl F rv mb n r S g e eb c m :=
  ⟨h.hp.kept0 hf, h.kp.step hf (by simp), h.eb.kept hf (by simp), h.gp⟩

theorem RSt.fin {w wr : World} {t : TypeId} {b : Nat} {tl : List Value} {F : Nat → Prop} {rv : Value} {mb n : Nat} {r : Nat → En} {S : En → Prop} {g : Nat} {e : En} {eb c : Nat} {m : Int → Option Nat}
    (h : RSt w wr t b tl F rv mb n r S g e eb c m) (hn : n < 1000000) (he : isH e.h) (hr : RInv n r g e) (hg : g = 0 ∨ ¬ ah e (r (par g))) :
    Calls Try.prog 81 #[.pointer (some ⟨b, 0, none⟩), enV e, .int .i64 g] wr fun y w' => y = .returned (.tuple #[]) ∧ Kp F w w' ∧ ∃ r' m', IsHp w' t b tl F rv mb n r' n m' ∧ Full n r' S m' ∧ Hp n r' := by
  refine (lay_81 h.hp h.gp.gn hn e he (by have := h.gp.lt; omega)).mono ?_
  rintro y w' ⟨rfl, hk, hi⟩
  have hf := h.gp.fin
  rw [hf.1] at hi
  exact ⟨rfl, h.kp.trans hk (fun _ h => h) (fun _ h => .inl h), _, _, hi, hf.2, hr.fin hg⟩

section
variable {w : World} {t : TypeId} {b : Nat} {tl : List Value} {F : Nat → Prop} {rv : Value} {mb n : Nat} {r : Nat → En} {S : En → Prop} {g : Nat} {e : En} {c : Nat} {m : Int → Option Nat}

set_option maxRecDepth 100000 in
set_option maxHeartbeats 4000000 in
theorem rise_76 (h : IsHp w t b tl F rv mb n r c m) (hn : n < 1000000) (hS : ∀ x, S x → isH x.h) (hgp : Gp n r S g e c m) (hr : RInv n r g e) :
    Calls Try.prog 76 #[.pointer (some ⟨b, 0, none⟩), enV e, .int .i64 g] w fun y w' => y = .returned (.tuple #[]) ∧ Kp F w w' ∧ ∃ r' m', IsHp w' t b tl F rv mb n r' n m' ∧ Full n r' S m' ∧ Hp n r' := by
  have hgn := hgp.gn
  have he : isH e.h := hS _ (by have := hgp.img.inn g hgn; rw [upd_same] at this; exact this)
  obtain ⟨gb, cap, hrv, hcap, hmax⟩ := h.shape (by omega)
  subst hrv
  have hg1 := World.grownBy_alloc w (.cells (enA e) 123) none
  have hE : Box (w.alloc (.cells (enA e) 123)) 123 w.heap.size (enA e) := Box.new _ _ _
  have hst : RSt w (w.alloc (.cells (enA e) 123)) t b tl F _ mb n r S g e w.heap.size c m := ⟨h.kept0 hg1, Kp.of hg1, hE, hgp⟩
  have hFe : ¬ F w.heap.size := fun k => by have := h.fl _ k; omega
  obtain ⟨eb, heb⟩ : ∃ eb, eb = w.heap.size := ⟨_, rfl⟩
  rw [← heb] at hst hFe
  unfold enV
  unfold enA at hst hg1
  go_enter Try.func76, Try.ntmps76
  go_wp2
  rw [← heb]
  clear hE heb
  generalize w.alloc (.cells #[.int .u64 e.h, .int .i64 e.x, .int .i64 e.t] 123) = W at *
  go_loopw [2] (fun v wr => ∃ (g : Nat) (r : Nat → En) (m : Int → Option Nat) (c : Nat), v = .int .i64 g ∧ RSt w wr t b tl F (.slice (some ⟨gb, 0, none⟩) n cap) mb n r S g e eb c m ∧ RInv n r g e) (fun v _ => (intOf v).toNat)
  case atStart => exact ⟨g, r, m, c, rfl, hst, hr⟩
  case round =>
    clear hst hr hgp hgn h
    obtain ⟨g, r, m, c, rfl, hst, hr⟩ := hrel
    have hgn := hst.gp.gn
    have c0 : wr.cell? ⟨b, 0, none⟩ = some (.slice (some ⟨gb, 0, none⟩) n cap) := hst.hp.box.cell 0
    obtain ⟨e0, e1, e2⟩ := en_cells hst.eb
    by_cases h0 : g = 0
    · subst h0
      have hfin := fun nq => hst.kept (gb_drewN (gb_refl wr none) nq) |>.fin hn he hr (.inl rfl)
      unfold enV at hfin
      go_wp2
      go_quiet (fail)
      go_wp2_with (first | (go_at_call 81; refine (hfin _).mono ?_; rintro y w' ⟨rfl, hpost⟩) | fail)
      go_end0
      exact ⟨rfl, hpost⟩
    · have hp := par_lt (Nat.pos_of_ne_zero h0)
      have h79 := fun W => above_79 (g : Int) (by omega) (by omega) W
      rw [par_int (Nat.pos_of_ne_zero h0)] at h79
      obtain ⟨d0, d1, d2⟩ := hst.hp.cells rfl (i := par g) (by omega)
      have h78 := fun W => ahead_78 e (r (par g)) W
      unfold enV at h78
      have hd0 : decide (0 < (g : Int)) = true := by simp; omega
      have hd1 : decide (0 < g) = true := by simp; omega
      have hib : ((par g : Nat) : Int) < n := by omega
      have hst2 := fun w' (hf : wr.grownBy w' none) => hst.kept hf
      by_cases hah : ah e (r (par g))
      · rw [decide_eq_true hah] at h78
        have hlay := fun w' (hf : wr.grownBy w' none) => lay_81 (hst2 w' hf).hp hgn hn (r (par g)) (hS _ (by have := hst.gp.img.inn (par g) (by omega); rw [upd_other _ _ (by omega)] at this; exact this)) (by have := hst.gp.lt; omega)
        have hgp2 := hst.gp.step (p := par g) (by omega) (by omega)
        have hr2 := hr.step (Nat.pos_of_ne_zero h0) hgn hah
        unfold enV at hlay
        clear hst
        generalize (if (m (r (par g)).h).isSome = true then c else c + 1) = c2 at *
        go_wp2
        go_region_held3 (fun w' => w'.cell? ⟨b, 0, none⟩ = some (.slice (some ⟨gb, 0, none⟩) n cap) ∧ w'.cell? ⟨eb, 0, none⟩ = some (.int .u64 e.h) ∧ w'.cell? ⟨eb, 1, none⟩ = some (.int .i64 e.x) ∧ w'.cell? ⟨eb, 2, none⟩ = some (.int .i64 e.t) ∧ w'.cell? ⟨gb, par g * 3, none⟩ = some (.int .u64 (r (par g)).h) ∧ w'.cell? ⟨gb, par g * 3 + 1, none⟩ = some (.int .i64 (r (par g)).x) ∧ w'.cell? ⟨gb, par g * 3 + 2, none⟩ = some (.int .i64 (r (par g)).t)) ((first | exact ⟨gb_cellN hg2 c0, gb_cellN hg2 e0, gb_cellN hg2 e1, gb_cellN hg2 e2, gb_cellN hg2 d0, gb_cellN hg2 d1, gb_cellN hg2 d2⟩ | go_keep)) ((first | (go_at_call 79; with_reducible refine (h79 _).mono ?_; rintro y w1 ⟨rfl, rfl⟩) | (go_at_call 78; with_reducible refine (h78 _).mono ?_; rintro y w2 ⟨rfl, hf2⟩; have hg2 : wr.grownBy w2 none := gb_trans (by first | exact gb_drew (gb_refl _ _) | exact gb_drewN (gb_refl _ _) _ | exact gb_drewN (gb_drew (gb_refl _ _)) _) hf2)))
        replace c0 := gb_cellN hg2 c0
        replace d0 := gb_cellN hg2 d0
        replace d1 := gb_cellN hg2 d1
        replace d2 := gb_cellN hg2 d2
        go_wp2
        go_region_held3 (fun w' => w'.cell? ⟨b, 0, none⟩ = some (.slice (some ⟨gb, 0, none⟩) n cap) ∧ w'.cell? ⟨gb, par g * 3, none⟩ = some (.int .u64 (r (par g)).h) ∧ w'.cell? ⟨gb, par g * 3 + 1, none⟩ = some (.int .i64 (r (par g)).x) ∧ w'.cell? ⟨gb, par g * 3 + 2, none⟩ = some (.int .i64 (r (par g)).t)) ((first | exact ⟨hc3, hd3.1, hd3.2.1, hd3.2.2⟩ | go_keep)) ((first | (go_at_call 79; with_reducible refine (h79 _).mono ?_; rintro y w1 ⟨rfl, rfl⟩) | (go_at_call 81; with_reducible refine (hlay _ (gb_trans hg2 (gb_drew (gb_refl _ _)))).mono ?_; rintro y w3 ⟨rfl, hk3, hi3⟩; have hc3 : w3.cell? ⟨b, 0, none⟩ = some (.slice (some ⟨gb, 0, none⟩) n cap) := hi3.c0; have hd3 := hi3.cells rfl (i := par g) (by omega); rw [upd_other _ _ (by omega)] at hd3)))
        have hk4 : Kp F wr w3 := (Kp.of (gb_trans hg2 (gb_drew (gb_refl _ none)))).trans hk3 (fun _ h => h) (fun _ h => .inl h)
        have hs3 := hst2 wr (gb_refl _ _)
        have hfin : RSt w w3 t b tl F (.slice (some ⟨gb, 0, none⟩) n cap) mb n (upd r g (r (par g))) S (par g) e eb c2 (upz m (r (par g)).h (some g)) := ⟨hi3, hs3.kp.trans hk4 (fun _ h => h) (fun _ h => .inl h), hk4.box hs3.eb hFe, hgp2⟩
        clear hi3 hk3 hk4 hs3 hc3 hd3 hst2 hlay
        go_wp2_with (first | (go_at_call 79; refine (h79 _).mono ?_; rintro y w1 ⟨rfl, rfl⟩) | fail)
        exact ⟨⟨par g, _, _, _, rfl, hfin, hr2⟩, by simp [intOf]; omega⟩
      · rw [decide_eq_false hah] at h78
        have hfin := fun w' (hf : wr.grownBy w' none) => (hst2 w' hf).fin hn he hr (.inr hah)
        unfold enV at hfin
        clear hst
        go_wp2
        go_region_held3 (fun w' => w'.cell? ⟨b, 0, none⟩ = some (.slice (some ⟨gb, 0, none⟩) n cap) ∧ w'.cell? ⟨eb, 0, none⟩ = some (.int .u64 e.h) ∧ w'.cell? ⟨eb, 1, none⟩ = some (.int .i64 e.x) ∧ w'.cell? ⟨eb, 2, none⟩ = some (.int .i64 e.t) ∧ w'.cell? ⟨gb, par g * 3, none⟩ = some (.int .u64 (r (par g)).h) ∧ w'.cell? ⟨gb, par g * 3 + 1, none⟩ = some (.int .i64 (r (par g)).x) ∧ w'.cell? ⟨gb, par g * 3 + 2, none⟩ = some (.int .i64 (r (par g)).t)) ((first | exact ⟨gb_cellN hg2 c0, gb_cellN hg2 e0, gb_cellN hg2 e1, gb_cellN hg2 e2, gb_cellN hg2 d0, gb_cellN hg2 d1, gb_cellN hg2 d2⟩ | go_keep)) ((first | (go_at_call 79; with_reducible refine (h79 _).mono ?_; rintro y w1 ⟨rfl, rfl⟩) | (go_at_call 78; with_reducible refine (h78 _).mono ?_; rintro y w2 ⟨rfl, hf2⟩; have hg2 : wr.grownBy w2 none := gb_trans (by first | exact gb_drew (gb_refl _ _) | exact gb_drewN (gb_refl _ _) _ | exact gb_drewN (gb_drew (gb_refl _ _)) _) hf2)))
        replace e0 := gb_cellN hg2 e0
        replace e1 := gb_cellN hg2 e1
        replace e2 := gb_cellN hg2 e2
        go_wp2_with (first | (go_at_call 81; refine (hfin _ hg2).mono ?_; rintro y w' ⟨rfl, hpost⟩) | fail)
        go_end0
        exact ⟨rfl, hpost⟩
end

end Go.Proofs.Ytagcmfaljfaikaa
