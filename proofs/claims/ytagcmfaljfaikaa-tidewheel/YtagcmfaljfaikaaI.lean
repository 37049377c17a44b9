/-
  sink, fill.
-/
import Derived.Test.YtagcmfaljfaikaaH
namespace Go.Proofs.Ytagcmfaljfaikaa
open Go.RowKit
set_option linter.unusedVariables false

theorem RSt.fin2 {w wr : World} {t : TypeId} {b : Nat} {tl : List Value} {F : Nat → Prop} {rv : Value} {mb n : Nat} {r : Nat → En} {S : En → Prop} {g : Nat} {e : En} {eb c : Nat} {m : Int → Option Nat}
    (h : RSt w wr t b tl F rv mb n r S g e eb c m) (hn : n < 1000000) (he : isH e.h) (hr : Hp n (upd r g e)) :
    Calls Try.prog 81 #[.pointer (some ⟨b, 0, none⟩), enV e, .int .i64 g] wr fun y w' => y = .returned (.tuple #[]) ∧ Kp F w w' ∧ ∃ r' m', IsHp w' t b tl F rv mb n r' n m' ∧ Full n r' S m' ∧ Hp n r' := by
  refine (lay_81 h.hp h.gp.gn hn e he (by have := h.gp.lt; omega)).mono ?_
  rintro y w' ⟨rfl, hk, hi⟩
  have hf := h.gp.fin
  rw [hf.1] at hi
  exact ⟨rfl, h.kp.trans hk (fun _ h => h) (fun _ h => .inl h), _, _, hi, hf.2, hr⟩

section
variable {w : World} {t : TypeId} {b : Nat} {tl : List Value} {F : Nat → Prop} {rv : Value} {mb n : Nat} {r : Nat → En} {S : En → Prop} {g : Nat} {e : En} {c : Nat} {m : Int → Option Nat}

set_option maxRecDepth 100000 in
set_option maxHeartbeats 4000000 in
theorem sink_80 (h : IsHp w t b tl F rv mb n r c m) (hn : n < 1000000) (hS : ∀ x, S x → isH x.h) (hgp : Gp n r S g e c m) (hr : SInv n r g e) :
    Calls Try.prog 80 #[.pointer (some ⟨b, 0, none⟩), enV e, .int .i64 g] w fun y w' => y = .returned (.tuple #[]) ∧ Kp F w w' ∧ ∃ r' m', IsHp w' t b tl F rv mb n r' n m' ∧ Full n r' S m' ∧ Hp n r' := by
  have hgn := hgp.gn
  have he : isH e.h := hS _ (by have := hgp.img.inn g hgn; rw [upd_same] at this; exact this)
  obtain ⟨gb, cap, hrv, hcap, hmax⟩ := h.shape (by omega)
  subst hrv
  have hg1 := World.grownBy_alloc w (.cells (enA e) 123) none
  have hE : Box (w.alloc (.cells (enA e) 123)) 123 w.heap.size (enA e) := Box.new _ _ _
  have hst : RSt w (w.alloc (.cells (enA e) 123)) t b tl F _ mb n r S g e w.heap.size c m := ⟨h.kept0 hg1, Kp.of hg1, hE, hgp⟩
  have hFe : ¬ F w.heap.size := fun k => by have := h.fl _ k; omega
  obtain ⟨eb, heb⟩ : ∃ eb, eb = w.heap.size := ⟨_, rfl⟩
  rw [← heb] at hst hFe
  unfold enV
  unfold enA at hst hg1
  go_enter Try.func80, Try.ntmps80
  go_wp2
  rw [← heb]
  clear hE heb
  generalize w.alloc (.cells #[.int .u64 e.h, .int .i64 e.x, .int .i64 e.t] 123) = W at *
  go_loopw [2] (fun v wr => ∃ (g : Nat) (r : Nat → En) (m : Int → Option Nat) (c : Nat), v = .int .i64 g ∧ RSt w wr t b tl F (.slice (some ⟨gb, 0, none⟩) n cap) mb n r S g e eb c m ∧ SInv n r g e) (fun v _ => n - (intOf v).toNat)
  case atStart => exact ⟨g, r, m, c, rfl, hst, hr⟩
  case round =>
    clear hst hr hgp hgn h
    obtain ⟨g, r, m, c, rfl, hst, hr⟩ := hrel
    have hgn := hst.gp.gn
    have c0 : wr.cell? ⟨b, 0, none⟩ = some (.slice (some ⟨gb, 0, none⟩) n cap) := hst.hp.c0
    obtain ⟨e0, e1, e2⟩ := en_cells hst.eb
    by_cases h0 : 2 * g + 1 < n
    · obtain ⟨k, hk0, hkn, hkp, hle, h82⟩ := below_yes hst.hp hn h0
      have hgk : g < k := by have := par_lt hk0; omega
      replace h82 := h82 _ hst.hp
      have hst2 := fun w' (hf : wr.grownBy w' none) => hst.kept hf
      obtain ⟨d0, d1, d2⟩ := hst.hp.cells rfl (i := k) (by omega)
      have h78 := fun W => ahead_78 e (r k) W
      unfold enV at h78
      have hib : (k : Int) < n := by omega
      by_cases hah : ah e (r k)
      · rw [decide_eq_true hah] at h78
        have hfin := fun w' (hf : wr.grownBy w' none) => (hst2 w' hf).fin2 hn he (hr.fin (fun i i0 hi hp => ah_nah_trans hah (hle i i0 hi hp)))
        unfold enV at hfin
        clear hst
        go_wp2_with (first | (go_at_call 82; refine h82.mono ?_; rintro y w1 ⟨rfl, hg1'⟩; replace c0 := gb_cellN hg1' c0; replace e0 := gb_cellN hg1' e0; replace e1 := gb_cellN hg1' e1; replace e2 := gb_cellN hg1' e2; replace d0 := gb_cellN hg1' d0; replace d1 := gb_cellN hg1' d1; replace d2 := gb_cellN hg1' d2) | fail)
        go_region_held3 (fun w' => w'.cell? ⟨b, 0, none⟩ = some (.slice (some ⟨gb, 0, none⟩) n cap) ∧ w'.cell? ⟨eb, 0, none⟩ = some (.int .u64 e.h) ∧ w'.cell? ⟨eb, 1, none⟩ = some (.int .i64 e.x) ∧ w'.cell? ⟨eb, 2, none⟩ = some (.int .i64 e.t) ∧ w'.cell? ⟨gb, k * 3, none⟩ = some (.int .u64 (r k).h) ∧ w'.cell? ⟨gb, k * 3 + 1, none⟩ = some (.int .i64 (r k).x) ∧ w'.cell? ⟨gb, k * 3 + 2, none⟩ = some (.int .i64 (r k).t)) ((first | exact ⟨gb_cellN hg2 c0, gb_cellN hg2 e0, gb_cellN hg2 e1, gb_cellN hg2 e2, gb_cellN hg2 d0, gb_cellN hg2 d1, gb_cellN hg2 d2⟩ | go_keep)) ((first | (go_at_call 78; with_reducible refine (h78 _).mono ?_; rintro y w2 ⟨rfl, hf2⟩; have hg2 := gb_trans (gb_drew (gb_refl _ none)) hf2)))
        replace e0 := gb_cellN hg2 e0
        replace e1 := gb_cellN hg2 e1
        replace e2 := gb_cellN hg2 e2
        go_wp2_with (first | (go_at_call 81; refine (hfin _ (gb_trans hg1' hg2)).mono ?_; rintro y w' ⟨rfl, hpost⟩) | fail)
        go_end0
        exact ⟨rfl, hpost⟩
      · rw [decide_eq_false hah] at h78
        have hlay := fun w' (hf : wr.grownBy w' none) => lay_81 (hst2 w' hf).hp hgn hn (r k) (hS _ (by have := hst.gp.img.inn k (by omega); rw [upd_other _ _ (by omega)] at this; exact this)) (by have := hst.gp.lt; omega)
        have hgp2 := hst.gp.step (p := k) (by omega) (by omega)
        have hr2 := hr.step hk0 hkn hkp hle hah
        unfold enV at hlay
        clear hst
        generalize (if (m (r k).h).isSome = true then c else c + 1) = c2 at *
        go_wp2_with (first | (go_at_call 82; refine h82.mono ?_; rintro y w1 ⟨rfl, hg1'⟩; replace c0 := gb_cellN hg1' c0; replace e0 := gb_cellN hg1' e0; replace e1 := gb_cellN hg1' e1; replace e2 := gb_cellN hg1' e2; replace d0 := gb_cellN hg1' d0; replace d1 := gb_cellN hg1' d1; replace d2 := gb_cellN hg1' d2) | fail)
        go_region_held3 (fun w' => w'.cell? ⟨b, 0, none⟩ = some (.slice (some ⟨gb, 0, none⟩) n cap) ∧ w'.cell? ⟨eb, 0, none⟩ = some (.int .u64 e.h) ∧ w'.cell? ⟨eb, 1, none⟩ = some (.int .i64 e.x) ∧ w'.cell? ⟨eb, 2, none⟩ = some (.int .i64 e.t) ∧ w'.cell? ⟨gb, k * 3, none⟩ = some (.int .u64 (r k).h) ∧ w'.cell? ⟨gb, k * 3 + 1, none⟩ = some (.int .i64 (r k).x) ∧ w'.cell? ⟨gb, k * 3 + 2, none⟩ = some (.int .i64 (r k).t)) ((first | exact ⟨gb_cellN hg2 c0, gb_cellN hg2 e0, gb_cellN hg2 e1, gb_cellN hg2 e2, gb_cellN hg2 d0, gb_cellN hg2 d1, gb_cellN hg2 d2⟩ | go_keep)) ((first | (go_at_call 78; with_reducible refine (h78 _).mono ?_; rintro y w2 ⟨rfl, hf2⟩; have hg2 := gb_trans (gb_drew (gb_refl _ none)) hf2)))
        replace c0 := gb_cellN hg2 c0
        replace d0 := gb_cellN hg2 d0
        replace d1 := gb_cellN hg2 d1
        replace d2 := gb_cellN hg2 d2
        have hgw2 := gb_trans hg1' hg2
        clear hg1' hg2 hf2
        go_wp2_with (first | (go_at_call 81; refine (hlay _ hgw2).mono ?_; rintro y w3 ⟨rfl, hk3, hi3⟩) | fail)
        have hk4 : Kp F wr w3 := (Kp.of hgw2).trans hk3 (fun _ h => h) (fun _ h => .inl h)
        have hs3 := hst2 wr (gb_refl _ _)
        have hfin : RSt w w3 t b tl F (.slice (some ⟨gb, 0, none⟩) n cap) mb n (upd r g (r k)) S k e eb c2 (upz m (r k).h (some g)) := ⟨hi3, hs3.kp.trans hk4 (fun _ h => h) (fun _ h => .inl h), hk4.box hs3.eb hFe, hgp2⟩
        exact ⟨⟨k, _, _, _, rfl, hfin, hr2⟩, by simp [intOf]; omega⟩
    · have h82 := below_no hst.hp hn hgn (by omega)
      have hfin := fun w' (hf : wr.grownBy w' none) => (hst.kept hf).fin2 hn he (hr.fin (fun i i0 hi hp => by rcases kids i0 hp with rfl | rfl <;> omega))
      unfold enV at hfin
      go_wp2_with (first | (go_at_call 82; refine h82.mono ?_; rintro y w1 ⟨rfl, rfl⟩) | fail)
      go_quiet (fail)
      go_wp2_with (first | (go_at_call 81; refine (hfin _ (gb_drewN (gb_refl _ _) _)).mono ?_; rintro y w' ⟨rfl, hpost⟩) | fail)
      go_end0
      exact ⟨rfl, hpost⟩
end

end Go.Proofs.Ytagcmfaljfaikaa
