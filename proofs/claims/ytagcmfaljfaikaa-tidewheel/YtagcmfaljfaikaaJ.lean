/-
  fill, add.
-/
import Derived.Test.YtagcmfaljfaikaaI
namespace Go.Proofs.Ytagcmfaljfaikaa
open Go.RowKit
set_option linter.unusedVariables false

theorem Try.info123 : (Try.prog.info? 123).map (fun i => (i.zero, i.size, i.bytes)) = some (some (.agg #[.int .u64 0, .int .i64 0, .int .i64 0]), 3, 24) := by kernel_rfl

section
variable {w : World} {t : TypeId} {b : Nat} {tl : List Value} {F : Nat → Prop} {rv : Value} {mb n : Nat} {r : Nat → En} {S : En → Prop} {g : Nat} {e : En} {c : Nat} {m : Int → Option Nat}

set_option maxRecDepth 100000 in
set_option maxHeartbeats 4000000 in
theorem fill_75 (h : IsHp w t b tl F rv mb n r c m) (hn : n < 1000000) (hS : ∀ x, S x → isH x.h) (hgp : Gp n r S g e c m) (hr : 0 < g → ah e (r (par g)) → RInv n r g e) (hs : (0 < g → ¬ ah e (r (par g))) → SInv n r g e) :
    Calls Try.prog 75 #[.pointer (some ⟨b, 0, none⟩), enV e, .int .i64 g] w fun y w' => y = .returned (.tuple #[]) ∧ Kp F w w' ∧ ∃ r' m', IsHp w' t b tl F rv mb n r' n m' ∧ Full n r' S m' ∧ Hp n r' := by
  have hgn := hgp.gn
  have he : isH e.h := hS _ (by have := hgp.img.inn g hgn; rw [upd_same] at this; exact this)
  obtain ⟨gb, cap, hrv, hcap, hmax⟩ := h.shape (by omega)
  subst hrv
  have hg1 := World.grownBy_alloc w (.cells (enA e) 123) none
  have hE : Box (w.alloc (.cells (enA e) 123)) 123 w.heap.size (enA e) := Box.new _ _ _
  obtain ⟨eb, heb⟩ : ∃ eb, eb = w.heap.size := ⟨_, rfl⟩
  rw [← heb] at hE
  obtain ⟨e0, e1, e2⟩ := en_cells hE
  have h1 := h.kept0 hg1
  have c0 := h1.c0
  have hK : ∀ W' w', w.grownBy W' none → (Kp F W' w' ∧ ∃ r' m', IsHp w' t b tl F (.slice (some ⟨gb, 0, none⟩) n cap) mb n r' n m' ∧ Full n r' S m' ∧ Hp n r') → (Kp F w w' ∧ ∃ r' m', IsHp w' t b tl F (.slice (some ⟨gb, 0, none⟩) n cap) mb n r' n m' ∧ Full n r' S m' ∧ Hp n r') := fun W' w' hg hp => ⟨(Kp.of hg).trans hp.1 (fun _ h => h) (fun _ h => .inl h), hp.2⟩
  unfold enA at e0 e1 e2 c0 hg1 h1
  unfold enV
  by_cases h0 : g = 0
  · have hsk := fun w' (hf : w.grownBy w' none) => sink_80 (h.kept0 hf) hn hS hgp (hs (fun k => by omega))
    unfold enV at hsk
    subst h0
    go_enter Try.func75, Try.ntmps75
    go_wp2
    rw [← heb]
    clear heb hE
    generalize w.alloc (.cells #[.int .u64 e.h, .int .i64 e.x, .int .i64 e.t] 123) = W at *
    go_quiet (fail)
    go_wp2_with (first | (go_at_call 80; refine (hsk _ (gb_drewN hg1 _)).mono ?_; rintro y w' ⟨rfl, hpost⟩) | fail)
    go_end0
    exact ⟨rfl, hK _ _ (gb_drewN hg1 _) hpost⟩
  · have hp := par_lt (Nat.pos_of_ne_zero h0)
    have h79 := fun W => above_79 (g : Int) (by omega) (by omega) W
    rw [par_int (Nat.pos_of_ne_zero h0)] at h79
    obtain ⟨d0, d1, d2⟩ := h1.cells rfl (i := par g) (by omega)
    have h78 := fun W => ahead_78 e (r (par g)) W
    unfold enV at h78
    have hd0 : decide (0 < (g : Int)) = true := by simp; omega
    have hd1 : decide (0 < g) = true := by simp; omega
    have hib : ((par g : Nat) : Int) < n := by omega
    by_cases hah : ah e (r (par g))
    · rw [decide_eq_true hah] at h78
      have hrs := fun w' (hf : w.grownBy w' none) => rise_76 (h.kept0 hf) hn hS hgp (hr (by omega) hah)
      unfold enV at hrs
      go_enter Try.func75, Try.ntmps75
      go_wp2
      rw [← heb]
      clear heb hE
      generalize w.alloc (.cells #[.int .u64 e.h, .int .i64 e.x, .int .i64 e.t] 123) = W at *
      go_region_held3 (fun w' => w'.cell? ⟨b, 0, none⟩ = some (.slice (some ⟨gb, 0, none⟩) n cap) ∧ w'.cell? ⟨eb, 0, none⟩ = some (.int .u64 e.h) ∧ w'.cell? ⟨eb, 1, none⟩ = some (.int .i64 e.x) ∧ w'.cell? ⟨eb, 2, none⟩ = some (.int .i64 e.t) ∧ w'.cell? ⟨gb, par g * 3, none⟩ = some (.int .u64 (r (par g)).h) ∧ w'.cell? ⟨gb, par g * 3 + 1, none⟩ = some (.int .i64 (r (par g)).x) ∧ w'.cell? ⟨gb, par g * 3 + 2, none⟩ = some (.int .i64 (r (par g)).t)) ((first | exact ⟨gb_cellN hg2 c0, gb_cellN hg2 e0, gb_cellN hg2 e1, gb_cellN hg2 e2, gb_cellN hg2 d0, gb_cellN hg2 d1, gb_cellN hg2 d2⟩ | go_keep)) ((first | (go_at_call 79; with_reducible refine (h79 _).mono ?_; rintro y w1 ⟨rfl, rfl⟩) | (go_at_call 78; with_reducible refine (h78 _).mono ?_; rintro y w2 ⟨rfl, hf2⟩; have hg2 := gb_trans (by first | exact gb_drew (gb_refl W none) | exact gb_drewN (gb_refl W none) _ | exact gb_drewN (gb_drew (gb_refl W none)) _) hf2)))
      replace e0 := gb_cellN hg2 e0
      replace e1 := gb_cellN hg2 e1
      replace e2 := gb_cellN hg2 e2
      go_wp2_with (first | (go_at_call 76; refine (hrs _ (gb_trans hg1 hg2)).mono ?_; rintro y w' ⟨rfl, hpost⟩) | fail)
      exact bodyPost_ret (v := .tuple #[]) (results_none Try.results75 _ _ _) rfl ⟨rfl, hK _ _ (gb_trans hg1 hg2) hpost⟩
    · rw [decide_eq_false hah] at h78
      have hsk := fun w' (hf : w.grownBy w' none) => sink_80 (h.kept0 hf) hn hS hgp (hs (fun _ => hah))
      unfold enV at hsk
      go_enter Try.func75, Try.ntmps75
      go_wp2
      rw [← heb]
      clear heb hE
      generalize w.alloc (.cells #[.int .u64 e.h, .int .i64 e.x, .int .i64 e.t] 123) = W at *
      go_region_held3 (fun w' => w'.cell? ⟨b, 0, none⟩ = some (.slice (some ⟨gb, 0, none⟩) n cap) ∧ w'.cell? ⟨eb, 0, none⟩ = some (.int .u64 e.h) ∧ w'.cell? ⟨eb, 1, none⟩ = some (.int .i64 e.x) ∧ w'.cell? ⟨eb, 2, none⟩ = some (.int .i64 e.t) ∧ w'.cell? ⟨gb, par g * 3, none⟩ = some (.int .u64 (r (par g)).h) ∧ w'.cell? ⟨gb, par g * 3 + 1, none⟩ = some (.int .i64 (r (par g)).x) ∧ w'.cell? ⟨gb, par g * 3 + 2, none⟩ = some (.int .i64 (r (par g)).t)) ((first | exact ⟨gb_cellN hg2 c0, gb_cellN hg2 e0, gb_cellN hg2 e1, gb_cellN hg2 e2, gb_cellN hg2 d0, gb_cellN hg2 d1, gb_cellN hg2 d2⟩ | go_keep)) ((first | (go_at_call 79; with_reducible refine (h79 _).mono ?_; rintro y w1 ⟨rfl, rfl⟩) | (go_at_call 78; with_reducible refine (h78 _).mono ?_; rintro y w2 ⟨rfl, hf2⟩; have hg2 := gb_trans (by first | exact gb_drew (gb_refl W none) | exact gb_drewN (gb_refl W none) _ | exact gb_drewN (gb_drew (gb_refl W none)) _) hf2)))
      replace e0 := gb_cellN hg2 e0
      replace e1 := gb_cellN hg2 e1
      replace e2 := gb_cellN hg2 e2
      go_wp2_with (first | (go_at_call 80; refine (hsk _ (gb_trans hg1 hg2)).mono ?_; rintro y w' ⟨rfl, hpost⟩) | fail)
      go_end0
      exact ⟨rfl, hK _ _ (gb_trans hg1 hg2) hpost⟩

/-- The row is longer by an entry. -/
theorem IsHp.push (h : IsHp w t b tl F rv mb n r c m) {w5 : World} {g2 cap2 : Nat} (hown : w5.ownsRow 0 123 3 (.slice (some ⟨g2, 0, none⟩) (n + 1) cap2) (n + 1) ((rng n fun i => enC (r i)) ++ enC e)) (hg : w.grownBy w5 rv.ownBlock) (hat : rv.ownBlock = some g2 ∨ w.heap.size ≤ g2) :
    IsHp (w5.setCell ⟨b, 0, none⟩ (.slice (some ⟨g2, 0, none⟩) (n + 1) cap2)) t b tl (fun k => F k ∨ k = g2) (.slice (some ⟨g2, 0, none⟩) (n + 1) cap2) mb (n + 1) (upd r n e) c m ∧ Kp F w (w5.setCell ⟨b, 0, none⟩ (.slice (some ⟨g2, 0, none⟩) (n + 1) cap2)) := by
  have hb1 := h.box.kept hg (fun e' => h.bg e'.symm rfl)
  have hm1 := h.map.kept hg (fun e' => h.mg e'.symm rfl)
  have hgs : w5.grownBy (w5.setCell ⟨b, 0, none⟩ (.slice (some ⟨g2, 0, none⟩) (n + 1) cap2)) (some b) := gb_setCell (gb_refl _ _) _
  obtain ⟨cur, hcur⟩ := row_block hown g2 rfl
  have hbg : b ≠ g2 := ne_of_type hb1 hcur h.tt
  have hb2 : Box (w5.setCell ⟨b, 0, none⟩ (.slice (some ⟨g2, 0, none⟩) (n + 1) cap2)) t b (.slice (some ⟨g2, 0, none⟩) (n + 1) cap2 :: .map (some mb) :: tl).toArray := by
    have := hb1.set 0 (.slice (some ⟨g2, 0, none⟩) (n + 1) cap2)
    simpa using this
  have hrow : (rng n fun i => enC (r i)) ++ enC e = rng (n + 1) fun i => enC (upd r n e i) := by
    rw [rng_succ, upd_same]
    congr 1
    exact rng_congr fun i hi => by rw [upd_other _ _ (by omega)]
  rw [hrow] at hown
  refine ⟨⟨hb2, row_kept hown hgs (fun k hk => by simp [Value.ownBlock] at hk; subst hk; simp; exact fun e' => hbg e'.symm), hm1.kept hgs (by simp; exact fun e' => h.bm e'.symm), .inl h.fb, .inl h.fm, fun k hk => by simp [Value.ownBlock] at hk; exact .inr hk.symm, h.tt, ?_⟩, ?_⟩
  · rintro k (hk | hk)
    · exact Nat.lt_of_lt_of_le (h.fl k hk) (Nat.le_trans hg.size hgs.size)
    · subst hk; exact Nat.lt_of_lt_of_le (lt_of_block hcur) hgs.size
  · exact ((Kp.refl F w).step hg (fun i hi => .inl (h.fr i hi))).step hgs (fun i hi => by injection hi with hi; subst hi; exact .inl h.fb)
end

end Go.Proofs.Ytagcmfaljfaikaa
