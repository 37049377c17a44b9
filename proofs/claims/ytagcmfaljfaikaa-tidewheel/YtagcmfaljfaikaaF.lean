/-
  A heap in memory.
-/
import Derived.Test.YtagcmfaljfaikaaE
namespace Go.Proofs.Ytagcmfaljfaikaa
open Go.RowKit
set_option linter.unusedVariables false

def enC (e : En) : List Value := [.int .u64 e.h, .int .i64 e.x, .int .i64 e.t]
theorem enC_len (r : Nat → En) (i : Nat) : (enC (r i)).length = 3 := rfl

/-- A heap of n entries r in the block b (of type t; tl: what lies behind it), its blocks F, its map mb of c entries. -/
structure IsHp (w : World) (t : TypeId) (b : Nat) (tl : List Value) (F : Nat → Prop) (rv : Value) (mb n : Nat) (r : Nat → En) (c : Nat) (m : Int → Option Nat) : Prop where
  box : Box w t b (rv :: .map (some mb) :: tl).toArray
  row : w.ownsRow 0 123 3 rv n (rng n fun i => enC (r i))
  map : Mp w mb c m
  fb : F b
  fm : F mb
  fr : ∀ k, rv.ownBlock = some k → F k
  tt : t ≠ 123
  fl : ∀ k, F k → k < w.heap.size

section
variable {w : World} {t : TypeId} {b : Nat} {tl : List Value} {F : Nat → Prop} {rv : Value} {mb n : Nat} {r : Nat → En} {c : Nat} {m : Int → Option Nat}

theorem IsHp.inn (h : IsHp w t b tl F rv mb n r c m) {k : Nat} (hk : k = b ∨ k = mb ∨ rv.ownBlock = some k) : k < w.heap.size := by
  rcases hk with rfl | rfl | hk
  · exact h.box.lt
  · exact h.map.lt
  · obtain ⟨cur, hc⟩ := row_block h.row k hk; exact lt_of_block hc
/-- only its own three blocks count -/
theorem IsHp.same3 {w' : World} (h : IsHp w t b tl F rv mb n r c m) (hs : w.heap.size ≤ w'.heap.size) (h1 : w'.heap[b]? = w.heap[b]?) (h2 : w'.heap[mb]? = w.heap[mb]?) (h3 : ∀ k, rv.ownBlock = some k → w'.heap[k]? = w.heap[k]?) : IsHp w' t b tl F rv mb n r c m :=
  ⟨by unfold Box; rw [h1]; exact h.box, row_same h.row h3, h.map.same h2, h.fb, h.fm, h.fr, h.tt, fun k hk => Nat.lt_of_lt_of_le (h.fl k hk) hs⟩
theorem IsHp.kept0 {w' : World} (h : IsHp w t b tl F rv mb n r c m) (hf : w.grownBy w' none) : IsHp w' t b tl F rv mb n r c m :=
  h.same3 hf.size (hf.block _ h.box.lt (by simp)) (hf.block _ h.map.lt (by simp)) (fun k hk => hf.block _ (h.inn (.inr (.inr hk))) (by simp))
theorem IsHp.kept {w' : World} {G : Nat → Prop} (h : IsHp w t b tl F rv mb n r c m) (hf : Kp G w w') (hd : ∀ k, F k → ¬ G k) : IsHp w' t b tl F rv mb n r c m :=
  h.same3 hf.size (hf.block _ h.box.lt (hd _ h.fb)) (hf.block _ h.map.lt (hd _ h.fm)) (fun k hk => hf.block _ (h.inn (.inr (.inr hk))) (hd _ (h.fr k hk)))
theorem IsHp.drewN (h : IsHp w t b tl F rv mb n r c m) (q : Nat) : IsHp (w.drewN q) t b tl F rv mb n r c m := h.kept0 (gb_drewN (gb_refl _ _) _)
theorem IsHp.c0 (h : IsHp w t b tl F rv mb n r c m) : w.cell? ⟨b, 0, none⟩ = some rv := h.box.cell 0
theorem IsHp.c1 (h : IsHp w t b tl F rv mb n r c m) : w.cell? ⟨b, 1, none⟩ = some (.map (some mb)) := h.box.cell 1
theorem IsHp.bm (h : IsHp w t b tl F rv mb n r c m) : b ≠ mb := fun e => by
  obtain ⟨es, cl, h1⟩ := h.map.isMap
  have h2 := h.box
  unfold Box at h2
  rw [e, h1] at h2
  simp at h2
theorem IsHp.bg (h : IsHp w t b tl F rv mb n r c m) {g : Nat} (hg : rv.ownBlock = some g) : b ≠ g := fun e => by
  obtain ⟨cur, h1⟩ := row_block h.row g hg
  exact ne_of_type h.box h1 h.tt e
theorem IsHp.mg (h : IsHp w t b tl F rv mb n r c m) {g : Nat} (hg : rv.ownBlock = some g) : mb ≠ g := fun e => by
  obtain ⟨cur, h1⟩ := row_block h.row g hg
  obtain ⟨es, cl, h2⟩ := h.map.isMap
  rw [e, h1] at h2
  simp at h2
theorem IsHp.shape (h : IsHp w t b tl F rv mb n r c m) (hn : 0 < n) : ∃ g cap, rv = .slice (some ⟨g, 0, none⟩) n cap ∧ n ≤ cap ∧ cap ≤ maxLen := by
  obtain ⟨ao, cp, h1, _, h2, h3, h4⟩ := row_shape h.row
  obtain ⟨g, rfl⟩ := h4 hn
  exact ⟨g, cp, h1, h2, h3⟩
theorem IsHp.cells (h : IsHp w t b tl F rv mb n r c m) {g cap : Nat} (hrv : rv = .slice (some ⟨g, 0, none⟩) n cap) {i : Nat} (hi : i < n) :
    w.cell? ⟨g, i * 3, none⟩ = some (.int .u64 (r i).h) ∧ w.cell? ⟨g, i * 3 + 1, none⟩ = some (.int .i64 (r i).x) ∧ w.cell? ⟨g, i * 3 + 2, none⟩ = some (.int .i64 (r i).t) := by
  have hr := h.row
  rw [hrv] at hr
  refine ⟨row_cell hr (i * 3) _ ?_, row_cell hr (i * 3 + 1) _ ?_, row_cell hr (i * 3 + 2) _ ?_⟩
  · have := rng_get (enC_len r) (n := n) (i := i) (j := 0) hi (by omega); simpa [enC] using this
  · have := rng_get (enC_len r) (n := n) (i := i) (j := 1) hi (by omega); simpa [enC] using this
  · have := rng_get (enC_len r) (n := n) (i := i) (j := 2) hi (by omega); simpa [enC] using this

set_option maxRecDepth 100000 in
set_option maxHeartbeats 1000000 in
theorem lay_81 (h : IsHp w t b tl F rv mb n r c m) {i : Nat} (hi : i < n) (hn : n < 1000000) (e : En) (he : isH e.h) (hc : c < 1000000) :
    Calls Try.prog 81 #[.pointer (some ⟨b, 0, none⟩), enV e, .int .i64 i] w fun y w' => y = .returned (.tuple #[]) ∧ Kp F w w' ∧ IsHp w' t b tl F rv mb n (upd r i e) (if (m e.h).isSome then c else c + 1) (upz m e.h (some i)) := by
  obtain ⟨g, cap, hrv, hcap, hmax⟩ := h.shape (by omega)
  subst hrv
  have hM0 := fun (W : World) (hW : Mp W mb c m) => hW.store hc he i (by omega)
  generalize (if (m e.h).isSome = true then c else c + 1) = c2 at *
  have hbl := h.box.lt
  have c0 : w.cell? ⟨b, 0, none⟩ = some (.slice (some ⟨g, 0, none⟩) n cap) := h.box.cell 0
  have c1 : w.cell? ⟨b, 1, none⟩ = some (.map (some mb)) := h.box.cell 1
  have hg1 := World.grownBy_alloc w (.cells #[.int .u64 e.h, .int .i64 e.x, .int .i64 e.t] 123) none
  have hE : Box (w.alloc (.cells #[.int .u64 e.h, .int .i64 e.x, .int .i64 e.t] 123)) 123 w.heap.size #[.int .u64 e.h, .int .i64 e.x, .int .i64 e.t] := Box.new _ _ _
  unfold enV
  go_enter Try.func81, Try.ntmps81
  go_wp2
  have h1 := h.kept0 hg1
  have k0 := gb_cellN hg1 c0
  have k1 := gb_cellN hg1 c1
  obtain ⟨d0, d1, d2⟩ := h1.cells rfl hi
  have e0 : World.cell? _ ⟨w.heap.size, 0, none⟩ = some (.int .u64 e.h) := hE.cell 0
  have e1 : World.cell? _ ⟨w.heap.size, 1, none⟩ = some (.int .i64 e.x) := hE.cell 1
  have e2 : World.cell? _ ⟨w.heap.size, 2, none⟩ = some (.int .i64 e.t) := hE.cell 2
  clear c0 c1
  generalize w.alloc (.cells #[.int .u64 e.h, .int .i64 e.x, .int .i64 e.t] 123) = W at *
  obtain ⟨cur, hcur⟩ := row_block h1.row g rfl
  have hgB : Box W 123 g cur := hcur
  have f0 := hgB.fz (i * 3)
  have f1 := hgB.fz (i * 3 + 1)
  have f2 := hgB.fz (i * 3 + 2)
  have hib : (i : Int) < n := by omega
  have hi0 : (0 : Int) ≤ i := by omega
  go_region
  have hgW : W.grownBy (((W.setCell ⟨g, i * 3, none⟩ (.int .u64 e.h)).setCell ⟨g, i * 3 + 1, none⟩ (.int .i64 e.x)).setCell ⟨g, i * 3 + 2, none⟩ (.int .i64 e.t)).drew (some g) := gb_drew (gb_setCell (gb_setCell (gb_setCell (gb_refl _ _) _) _) _)
  have hrow0 := h1.row
  have hrow1 := row_set (row_set (row_set hrow0 (i * 3) (.int .u64 e.h)) (i * 3 + 1) (.int .i64 e.x)) (i * 3 + 2) (.int .i64 e.t)
  have hset : (((rng n fun i => enC (r i)).set (i * 3) (.int .u64 e.h)).set (i * 3 + 1) (.int .i64 e.x)).set (i * 3 + 2) (.int .i64 e.t) = rng n fun j => enC (upd r i e j) := by
    have s0 := rng_set (enC_len r) (i := i) (j := 0) (by omega) (.int .u64 e.h) (g := fun k => enC (upd r i ⟨e.h, (r i).x, (r i).t⟩ k)) (fun k hk => congrArg enC (upd_other _ _ hk)) (by show enC (upd r i _ i) = _; rw [upd_same]; rfl) hi
    have s1 := rng_set (enC_len (upd r i ⟨e.h, (r i).x, (r i).t⟩)) (i := i) (j := 1) (by omega) (.int .i64 e.x) (g := fun k => enC (upd r i ⟨e.h, e.x, (r i).t⟩ k)) (fun k hk => congrArg enC ((upd_other _ _ hk).trans (upd_other _ _ hk).symm)) (by show enC (upd r i _ i) = (enC (upd r i _ i)).set _ _; rw [upd_same, upd_same]; rfl) hi
    have s2 := rng_set (enC_len (upd r i ⟨e.h, e.x, (r i).t⟩)) (i := i) (j := 2) (by omega) (.int .i64 e.t) (g := fun k => enC (upd r i e k)) (fun k hk => congrArg enC ((upd_other _ _ hk).trans (upd_other _ _ hk).symm)) (by show enC (upd r i _ i) = (enC (upd r i _ i)).set _ _; rw [upd_same, upd_same]; rfl) hi
    rw [← s2, ← s1, ← s0]
    rfl
  rw [hset] at hrow1
  have hrow2 : World.ownsRow (((W.setCell ⟨g, i * 3, none⟩ (.int .u64 e.h)).setCell ⟨g, i * 3 + 1, none⟩ (.int .i64 e.x)).setCell ⟨g, i * 3 + 2, none⟩ (.int .i64 e.t)).drew 0 123 3 (.slice (some ⟨g, 0, none⟩) n cap) n (rng n fun j => enC (upd r i e j)) := hrow1
  have hbg := h1.bg (g := g) rfl
  have hmg := h1.mg (g := g) rfl
  have hEg : w.heap.size ≠ g := fun e' => by
    have : g < w.heap.size := h.inn (.inr (.inr rfl))
    omega
  have q0 := gb_cell hgW e0 (by simp; exact hEg)
  have q1 := gb_cell hgW k1 (by simp; exact hbg)
  have qb := h1.box.kept hgW (by simp; exact hbg)
  have qm := h1.map.kept hgW (by simp; exact hmg)
  generalize (((W.setCell ⟨g, i * 3, none⟩ (.int .u64 e.h)).setCell ⟨g, i * 3 + 1, none⟩ (.int .i64 e.x)).setCell ⟨g, i * 3 + 2, none⟩ (.int .i64 e.t)).drew = V at *
  have qm2 : Mp V.drew mb c m := qm
  obtain ⟨X, hrun, hMX, hgX⟩ := hM0 _ qm2
  go_wp2
  go_region
  go_wp2
  go_end0
  have hgX2 : V.grownBy X (some mb) := gb_trans (gb_drew (gb_refl _ _)) hgX
  refine ⟨rfl, ((Kp.of hg1).step hgW (fun j hj => by injection hj with hj; subst hj; exact .inl (h.fr g rfl))).step hgX2 (fun j hj => by injection hj with hj; subst hj; exact .inl h.fm), ?_⟩
  refine ⟨qb.kept hgX2 (by simp; exact h1.bm), ?_, hMX, h.fb, h.fm, h.fr, h.tt, fun k hk => Nat.lt_of_lt_of_le (h.fl k hk) (Nat.le_trans hg1.size (Nat.le_trans hgW.size hgX2.size))⟩
  exact row_kept hrow2 hgX2 (fun k hk => by simp [Value.ownBlock] at hk; subst hk; simp; exact fun e' => hmg e'.symm)
end

/-- A heap with a gap at g, where e belongs or further: the row, the map (c entries). -/
structure Gp (n : Nat) (r : Nat → En) (S : En → Prop) (g : Nat) (e : En) (c : Nat) (m : Int → Option Nat) : Prop where
  img : Img n (upd r g e) S
  gn : g < n
  at_ : ∀ i, i < n → i ≠ g → m (r i).h = some i
  no : ∀ h i, m h = some i → h ≠ e.h → i < n ∧ i ≠ g ∧ (r i).h = h
  cnt : c = if (m e.h).isSome then n else n - 1

/-- A row and its map. -/
structure Full (n : Nat) (r : Nat → En) (S : En → Prop) (m : Int → Option Nat) : Prop where
  img : Img n r S
  at_ : ∀ i, i < n → m (r i).h = some i
  no : ∀ h i, m h = some i → i < n ∧ (r i).h = h

section
variable {n : Nat} {r : Nat → En} {S : En → Prop} {g : Nat} {e : En} {c : Nat} {m : Int → Option Nat}
theorem Gp.ne (h : Gp n r S g e c m) {p : Nat} (hp : p < n) (hpg : p ≠ g) : (r p).h ≠ e.h := fun he => by
  have := h.img.one p g hp h.gn (by rw [upd_other _ _ hpg, upd_same]; exact he)
  exact hpg this
theorem Gp.one (h : Gp n r S g e c m) {i p : Nat} (hi : i < n) (hp : p < n) (hig : i ≠ g) (hpg : p ≠ g) (he : (r i).h = (r p).h) : i = p :=
  h.img.one i p hi hp (by rw [upd_other _ _ hpg, upd_other _ _ hig]; exact he)
theorem Gp.step (h : Gp n r S g e c m) {p : Nat} (hp : p < n) (hpg : p ≠ g) :
    Gp n (upd r g (r p)) S p e (if (m (r p).h).isSome then c else c + 1) (upz m (r p).h (some g)) := by
  have hmp := h.at_ p hp hpg
  have hne := h.ne hp hpg
  refine ⟨h.img.swap h.gn hp hpg, hp, fun i hi hip => ?_, fun k i hk hke => ?_, ?_⟩
  · by_cases hig : i = g
    · subst hig; rw [upd_same, upz_same]
    · rw [upd_other _ _ hig, upz_other _ _ (fun he => hip (h.one hi hp hig hpg he))]
      exact h.at_ i hi hig
  · by_cases hkp : k = (r p).h
    · subst hkp
      rw [upz_same] at hk
      obtain rfl : g = i := Option.some.inj hk
      exact ⟨h.gn, fun e' => hpg e'.symm, by rw [upd_same]⟩
    · rw [upz_other _ _ hkp] at hk
      obtain ⟨h1, h2, h3⟩ := h.no k i hk hke
      exact ⟨h1, fun e' => hkp (by rw [← h3, e']), by rw [upd_other _ _ h2]; exact h3⟩
  · rw [hmp, upz_other _ _ (fun e' => hne e'.symm)]
    exact h.cnt
theorem Gp.fin (h : Gp n r S g e c m) : (if (m e.h).isSome then c else c + 1) = n ∧ Full n (upd r g e) S (upz m e.h (some g)) := by
  have hgn := h.gn
  refine ⟨?_, h.img, fun i hi => ?_, fun k i hk => ?_⟩
  · have := h.cnt
    split at this <;> simp_all <;> omega
  · by_cases hig : i = g
    · subst hig; rw [upd_same, upz_same]
    · rw [upd_other _ _ hig, upz_other _ _ (h.ne hi hig)]; exact h.at_ i hi hig
  · by_cases hke : k = e.h
    · subst hke; rw [upz_same] at hk
      obtain rfl : g = i := Option.some.inj hk
      exact ⟨h.gn, by rw [upd_same]⟩
    · rw [upz_other _ _ hke] at hk
      obtain ⟨h1, h2, h3⟩ := h.no k i hk hke
      exact ⟨h1, by rw [upd_other _ _ h2]; exact h3⟩
theorem Gp.lt (h : Gp n r S g e c m) : c ≤ n := by
  have := h.cnt; split at this <;> omega
/-- an entry more: the gap is at the end -/
theorem Full.grow (h : Full n r S m) (hn : ∀ x, S x → x.h ≠ e.h) : Gp (n + 1) (upd r n e) (fun x => S x ∨ x = e) n e n m := by
  refine ⟨h.img.add hn, by omega, fun i hi hin => ?_, fun k i hk hke => ?_, ?_⟩
  · rw [upd_other _ _ hin]; exact h.at_ i (by omega)
  · obtain ⟨h1, h2⟩ := h.no k i hk
    exact ⟨by omega, by omega, by rw [upd_other _ _ (by omega)]; exact h2⟩
  · have : m e.h = none := by
      cases hm : m e.h with
      | none => rfl
      | some i => obtain ⟨h1, h2⟩ := h.no _ i hm; exact absurd h2 (hn _ (h.img.inn i h1))
    rw [this]; simp
/-- an entry is struck, the last one fills the gap -/
theorem Full.strike (h : Full (n + 1) r S m) (hg : g < n) : Gp n r (fun x => S x ∧ x.h ≠ (r g).h) g (r n) n (upz m (r g).h none) := by
  refine ⟨h.img.strike hg, hg, fun i hi hig => ?_, fun k i hk hke => ?_, ?_⟩
  · rw [upz_other _ _ (fun he => hig (h.img.one i g (by omega) (by omega) he))]; exact h.at_ i (by omega)
  · by_cases hkg : k = (r g).h
    · subst hkg; rw [upz_same] at hk; simp at hk
    · rw [upz_other _ _ hkg] at hk
      obtain ⟨h1, h2⟩ := h.no k i hk
      have : i ≠ n := fun e' => hke (by rw [← h2, e'])
      exact ⟨by omega, fun e' => hkg (by rw [← h2, e']), h2⟩
  · rw [upz_other _ _ (fun he => by have := h.img.one n g (by omega) (by omega) he; omega), h.at_ n (by omega)]; rfl
theorem Full.drop (h : Full (n + 1) r S m) : Full n r (fun x => S x ∧ x.h ≠ (r n).h) (upz m (r n).h none) := by
  refine ⟨h.img.drop, fun i hi => ?_, fun k i hk => ?_⟩
  · rw [upz_other _ _ (fun he => by have := h.img.one i n (by omega) (by omega) he; omega)]; exact h.at_ i (by omega)
  · by_cases hkg : k = (r n).h
    · subst hkg; rw [upz_same] at hk; simp at hk
    · rw [upz_other _ _ hkg] at hk
      obtain ⟨h1, h2⟩ := h.no k i hk
      have : i ≠ n := fun e' => hkg (by rw [← h2, e'])
      exact ⟨by omega, h2⟩
end

end Go.Proofs.Ytagcmfaljfaikaa
