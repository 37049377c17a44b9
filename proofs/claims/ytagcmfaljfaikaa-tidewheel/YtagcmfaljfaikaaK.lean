/-
  add, remove.
-/
import Derived.Test.YtagcmfaljfaikaaJ
import Derived.Deep.RegionLaw
namespace Go.Proofs.Ytagcmfaljfaikaa
open Go.RowKit
set_option linter.unusedVariables false

section
variable {w : World} {t : TypeId} {b : Nat} {tl : List Value} {F : Nat → Prop} {rv : Value} {mb n : Nat} {r : Nat → En} {S : En → Prop} {g : Nat} {e : En} {c : Nat} {m : Int → Option Nat}

set_option maxRecDepth 100000 in
set_option maxHeartbeats 4000000 in
theorem add_59 (h : IsHp w t b tl F rv mb n r n m) (hf : Full n r S m) (hh : Hp n r) (hn : n < 900000) (hS : ∀ x, S x → isH x.h) (he : isH e.h) (hne : ∀ x, S x → x.h ≠ e.h) :
    Calls Try.prog 59 #[.pointer (some ⟨b, 0, none⟩), enV e] w fun y w' => y = .returned (.tuple #[]) ∧ Kp F w w' ∧ ∃ F' rv' r' m', (∀ k, F' k → F k ∨ w.heap.size ≤ k) ∧ IsHp w' t b tl F' rv' mb (n + 1) r' (n + 1) m' ∧ Full (n + 1) r' (fun x => S x ∨ x = e) m' ∧ Hp (n + 1) r' := by
  obtain ⟨ao, cap, hrv, hnil, hcap, hmax, hpos⟩ := row_shape h.row
  subst hrv
  have hgp := hf.grow hne
  have hri := hh.grow (e := e)
  have hg1 := World.grownBy_alloc w (.cells (enA e) 123) none
  have hE : Box (w.alloc (.cells (enA e) 123)) 123 w.heap.size (enA e) := Box.new _ _ _
  obtain ⟨eb, heb⟩ : ∃ eb, eb = w.heap.size := ⟨_, rfl⟩
  have hFe : ¬ F eb := fun k => by have := h.fl _ k; omega
  have hE0 := hE
  rw [← heb] at hE
  have hge : ∀ k, (Value.slice ao n cap).ownBlock = some k → k ≠ eb := fun k hk e' => hFe (e' ▸ h.fr k hk)
  obtain ⟨e0, e1, e2⟩ := en_cells hE
  have h1 := h.kept0 hg1
  have c0 := h1.c0
  have f0 := h1.box.fz 0
  have hrow := h1.row
  obtain ⟨i0, hi0, hz0, hz1, hz2⟩ := info_parts Try.info123
  unfold enA at e0 e1 e2 c0 hg1 h1 hrow hE f0
  unfold enV
  go_enter Try.func59, Try.ntmps59
  go_wp2
  rw [← heb]
  clear hE0
  generalize w.alloc (.cells #[.int .u64 e.h, .int .i64 e.x, .int .i64 e.t] 123) = W at *
  have al := fun (o : Obj) (x : Addr) (v : Value) (hv : W.cell? x = some v) => gb_cellN (World.grownBy_alloc W o none) hv
  have a0 := fun o => al o _ _ c0
  have a1 := fun o => al o _ _ e0
  have a2 := fun o => al o _ _ e1
  have a3 := fun o => al o _ _ e2
  clear al
  have hebW : eb < W.heap.size := hE.lt
  have HS : Hid (IsHp W t b tl F (.slice ao n cap) mb n r n m) := h1
  clear h heb hf hh hnil hpos
  go_region_law ((refine step_append_lies _ (by rfl) _ _ _ (by rfl) 0 123 i0 _ 3 24 Try.underlying106 hi0 hz0 hz1 hz2 rfl (by omega) (.slice ao n cap) n _ (by rfl) (World.ownsRow.alloc (w := W) hrow _) ⟨W.heap.size, 0, none⟩ 1 1 [.int .u64 e.h, .int .i64 e.x, .int .i64 e.t] (by rfl) (by rfl) (World.news_of_block (cs := #[.int .u64 e.h, .int .i64 e.x, .int .i64 e.t]) (t := 123) (fr := (0, 0)) (heap_alloc_new W _)) (by simp [Value.oneCell']) (by omega) (by unfold maxLen; omega) (by omega) (Nat.zero_le _) (W.heap.size + 1) (by simp) ?_; intro g2 cap2 w5 hown5 hgrow5 hat5 hlt5; have hg5 : W.grownBy w5 (Value.slice ao n cap).ownBlock := gb_trans (by first | exact gb_drew (gb_alloc (gb_refl _ _) _) | exact gb_alloc (gb_drew (gb_refl _ _)) _) hgrow5; have b3 := HS.out.box.kept hg5 (fun e => HS.out.bg e.symm rfl); have b4 : w5.cell? ⟨b, 0, none⟩ = some (.slice ao n cap) := b3.cell 0; have b5 : w5.frozen? ⟨b, 0, none⟩ = false := b3.fz 0))
  all_goals
    have hat6 : (Value.slice ao n cap).ownBlock = some g2 ∨ W.heap.size ≤ g2 := by
      rcases hat5 with h | h
      · exact .inl h
      · exact .inr (by omega)
    have hgeb : g2 ≠ eb := by
      rcases hat6 with h | h
      · exact hge _ h
      · omega
    obtain ⟨hI, hKp⟩ := HS.out.push (e := e) hown5 hg5 hat6
    have hE2 := hKp.box hE hFe
    obtain ⟨F2, hF2d⟩ : ∃ F2, F2 = fun k => F k ∨ k = g2 := ⟨_, rfl⟩
    rw [← hF2d] at hI
    have hF2 : ∀ k, F2 k → F k ∨ w.heap.size ≤ k := by
      rw [hF2d]
      rintro k (hk | hk)
      · exact .inl hk
      · subst hk
        rcases hat6 with h | h
        · exact .inl (HS.out.fr _ h)
        · exact .inr (Nat.le_trans hg1.size h)
    have hFe2 : ¬ F2 eb := by rw [hF2d]; exact fun k => k.elim hFe (fun k => hgeb k.symm)
    clear hF2d
    have hKw : Kp F w (w5.setCell ⟨b, 0, none⟩ (.slice (some ⟨g2, 0, none⟩) (n + 1) cap2)) := (Kp.of hg1).trans hKp (fun _ h => h) (fun _ h => .inl h)
    clear hat5 hat6 hown5 hgrow5 hg5 b3 b4 b5 hlt5 hge HS h1 hrow c0 e0 e1 e2 a0 a1 a2 a3 hE f0
    generalize w5.setCell ⟨b, 0, none⟩ (.slice (some ⟨g2, 0, none⟩) (n + 1) cap2) = V at *
    have hE4 : Box V.drew 123 eb (enA e) := hE2
    have hS2 : ∀ x, (S x ∨ x = e) → isH x.h := by
      rintro x (hx | rfl)
      · exact hS x hx
      · exact he
    have hrise := fun w' (hf : V.grownBy w' none) => rise_76 (hI.kept0 hf) (by omega) hS2 hgp hri
    have c0 := hI.c0
    obtain ⟨e0, e1, e2⟩ := en_cells hE2
    unfold enV at hrise
    have hnn : ((n + 1 : Nat) : Int) - 1 = n := by omega
    have hn2 : ((n : Int) + 1) - 1 = n := by omega
    have hnw : IntKind.i64.wrap (n : Int) = n := by rw [IntKind.wrap_i64]; omega
    go_wp2
    go_region_held3 (fun w' => w'.cell? ⟨b, 0, none⟩ = some (.slice (some ⟨g2, 0, none⟩) (n + 1) cap2) ∧ w'.cell? ⟨eb, 0, none⟩ = some (.int .u64 e.h) ∧ w'.cell? ⟨eb, 1, none⟩ = some (.int .i64 e.x) ∧ w'.cell? ⟨eb, 2, none⟩ = some (.int .i64 e.t)) ((first | exact ⟨hi3.c0, hE3.1, hE3.2.1, hE3.2.2⟩ | go_keep)) ((first | (go_at_call 76; with_reducible refine (hrise _ (gb_drew (gb_refl _ _))).mono ?_; rintro y w3 ⟨rfl, hk3, r3, m3, hi3, hfu3, hhp3⟩; have hE3 := en_cells (hk3.box hE4 hFe2))))
    go_wp2
    go_end0
    exact ⟨rfl, (hKw.step (gb_drew (gb_refl V none)) (by simp)).trans hk3 (fun _ h => h) (fun k hk => hF2 k hk), F2, _, r3, m3, hF2, hi3, hfu3, hhp3⟩

theorem remove_no (h : IsHp w t b tl F rv mb n r c m) {x : Int} (hx : isH x) (hm : m x = none) :
    Calls Try.prog 58 #[.pointer (some ⟨b, 0, none⟩), .int .u64 x] w fun y w' => y = .returned (.bool false) ∧ w' = w := by
  have c1 := h.c1
  have hM := h.map
  go_enter Try.func58, Try.ntmps58
  go_wp2_with (first | (at_lookup; refine mp_look_ok hM rfl _ _ rfl rfl hx rfl ?_; rw [hm]) | fail)
  go_ret
  exact ⟨rfl, rfl⟩

/-- The last entry is cut off. -/
theorem IsHp.pop (h : IsHp w t b tl F rv mb (n + 1) r c m) {gb cap : Nat} (hrv : rv = .slice (some ⟨gb, 0, none⟩) (n + 1) cap) {w5 : World} {c2 : Nat} {m2 : Int → Option Nat} (hM : Mp w5 mb c2 m2) (hg : Kp (fun k => k = mb) w w5) :
    IsHp (w5.setCell ⟨b, 0, none⟩ (.slice (some ⟨gb, 0, none⟩) n cap)) t b tl F (.slice (some ⟨gb, 0, none⟩) n cap) mb n r c2 m2 ∧ Kp F w (w5.setCell ⟨b, 0, none⟩ (.slice (some ⟨gb, 0, none⟩) n cap)) := by
  subst hrv
  have hgs : w5.grownBy (w5.setCell ⟨b, 0, none⟩ (.slice (some ⟨gb, 0, none⟩) n cap)) (some b) := gb_setCell (gb_refl _ _) _
  have hb1 := hg.box h.box h.bm
  have hbg := h.bg (g := gb) rfl
  have hmg := h.mg (g := gb) rfl
  have hb2 : Box (w5.setCell ⟨b, 0, none⟩ (.slice (some ⟨gb, 0, none⟩) n cap)) t b (.slice (some ⟨gb, 0, none⟩) n cap :: .map (some mb) :: tl).toArray := by
    have := hb1.set 0 (.slice (some ⟨gb, 0, none⟩) n cap)
    simpa using this
  have hr1 := row_take (m := n) h.row (by omega)
  have hrw : List.take (n * 3) (rng (n + 1) fun i => enC (r i)) = rng n fun i => enC (r i) := by
    rw [rng_succ, List.take_append_of_le_length (by rw [rng_len (enC_len r)]; exact Nat.le_refl _), List.take_of_length_le (by rw [rng_len (enC_len r)]; exact Nat.le_refl _)]
  rw [hrw] at hr1
  have hr2 := row_same (w' := w5) hr1 (fun k hk => hg.block k (h.inn (.inr (.inr hk))) (fun e' => by simp [Value.ownBlock] at hk; exact hmg (by rw [← e', hk])))
  refine ⟨⟨hb2, row_kept hr2 hgs (fun k hk => by simp [Value.ownBlock] at hk; subst hk; simp; exact fun e' => hbg e'.symm), hM.kept hgs (by simp; exact fun e' => h.bm e'.symm), h.fb, h.fm, fun k hk => h.fr k hk, h.tt, fun k hk => Nat.lt_of_lt_of_le (h.fl k hk) (Nat.le_trans hg.size hgs.size)⟩, ?_⟩
  exact (hg.mono (fun i hi => .inl (by rw [hi]; exact h.fm))).step hgs (fun i hi => by injection hi with hi; subst hi; exact .inl h.fb)

set_option maxRecDepth 100000 in
set_option maxHeartbeats 4000000 in
theorem remove_yes (h : IsHp w t b tl F rv mb (n + 1) r (n + 1) m) (hf : Full (n + 1) r S m) (hh : Hp (n + 1) r) (hn : n < 900000) (hS : ∀ x, S x → isH x.h) {x : Int} (hx : isH x) (hg : g < n + 1) (hm : (r g).h = x) :
    Calls Try.prog 58 #[.pointer (some ⟨b, 0, none⟩), .int .u64 x] w fun y w' => y = .returned (.bool true) ∧ Kp F w w' ∧ ∃ rv' r' m', IsHp w' t b tl F rv' mb n r' n m' ∧ Full n r' (fun y => S y ∧ y.h ≠ x) m' ∧ Hp n r' := by
  obtain ⟨gb, cap, hrv, hcap, hmax⟩ := h.shape (by omega)
  have hmx : m x = some g := by rw [← hm]; exact hf.at_ g hg
  have c0 := h.c0
  have c1 := h.c1
  have hM := h.map
  have hpop := fun w5 c2 m2 => h.pop hrv (w5 := w5) (c2 := c2) (m2 := m2)
  have f0 := h.box.fz 0
  have hbm := h.bm
  have hS2 : ∀ y, (S y ∧ y.h ≠ x) → isH y.h := fun y hy => hS y hy.1
  have d := h.cells hrv (i := n) (by omega)
  subst hrv
  have hmg := h.mg (g := gb) rfl
  have hms : (m x).isSome = true := by rw [hmx]; rfl
  have hnw : ((n + 1 : Nat) : Int) - 1 = n := by omega
  have hnw2 : (n : Int) + 1 - 1 = n := by omega
  have HH : Hid (IsHp w t b tl F (.slice (some ⟨gb, 0, none⟩) (n + 1) cap) mb (n + 1) r (n + 1) m) := h
  clear h
  by_cases hgn : g < n
  · have hgp := hf.strike hgn
    rw [hm] at hgp
    have hR := fun (h0 : 0 < g) (ha : ah (r n) (r (par g))) => hh.rinv h0 hgn ha
    have hSS := fun (ha : 0 < g → ¬ ah (r n) (r (par g))) => hh.sinv hgn ha
    have hfill := fun w' rv' (hI : IsHp w' t b tl F rv' mb n r n (upz m x none)) => fill_75 hI (by omega) hS2 hgp hR hSS
    unfold enV at hfill
    obtain ⟨q0, q1, q2⟩ := d
    have hd : (g : Int) < n := by omega
    go_enter Try.func58, Try.ntmps58
    go_wp2_with (first | (at_lookup; refine mp_look_ok hM rfl _ _ rfl rfl hx rfl ?_; rw [hmx]) | (at_delete; refine mp_delete hM rfl _ _ rfl rfl hx rfl hms ?_; intro w1 hM1 hg1; replace c0 := gb_cell hg1 c0 (by simp; exact hbm); replace q0 := gb_cell hg1 q0 (by simp; exact fun e' => hmg e'.symm); replace q1 := gb_cell hg1 q1 (by simp; exact fun e' => hmg e'.symm); replace q2 := gb_cell hg1 q2 (by simp; exact fun e' => hmg e'.symm); have a0 := (fun o => gb_cellN (World.grownBy_alloc _ o none) c0); have hbx := HH.out.box.kept hg1 (by simp; exact hbm); have a1 := (fun o => (hbx.kept (World.grownBy_alloc _ o none) (by simp)).fz 0); have hbl := hbx.lt) | fail)
    have hkm : Kp (fun k => k = mb) w w1 := (Kp.refl _ _).step hg1 (fun i hi => by injection hi with hi; exact .inl hi.symm)
    obtain ⟨hI, hK1⟩ := hpop w1 n _ hM1 hkm
    have hal := World.grownBy_alloc (w1.setCell ⟨b, 0, none⟩ (.slice (some ⟨gb, 0, none⟩) n cap)) (.cells #[.int .u64 (r n).h, .int .i64 (r n).x, .int .i64 (r n).t] 123) none
    refine (hfill _ _ (hI.kept0 hal)).mono ?_
    rintro y w' ⟨rfl, hk, r', m', hi, hfu, hhp⟩
    clear hfill hpop HH hI a0 a1
    go_wp2
    go_ret
    exact ⟨rfl, (hK1.step hal (by simp)).trans hk (fun _ h => h) (fun _ h => .inl h), _, r', m', hi, hfu, hhp⟩
  · obtain rfl : g = n := by omega
    have hfd := hf.drop
    rw [hm] at hfd
    have hhc := hh.cut
    obtain ⟨q0, q1, q2⟩ := d
    go_enter Try.func58, Try.ntmps58
    go_wp2_with (first | (at_lookup; refine mp_look_ok hM rfl _ _ rfl rfl hx rfl ?_; rw [hmx]) | (at_delete; refine mp_delete hM rfl _ _ rfl rfl hx rfl hms ?_; intro w1 hM1 hg1; replace c0 := gb_cell hg1 c0 (by simp; exact hbm); replace q0 := gb_cell hg1 q0 (by simp; exact fun e' => hmg e'.symm); replace q1 := gb_cell hg1 q1 (by simp; exact fun e' => hmg e'.symm); replace q2 := gb_cell hg1 q2 (by simp; exact fun e' => hmg e'.symm); have a0 := (fun o => gb_cellN (World.grownBy_alloc _ o none) c0); have hbx := HH.out.box.kept hg1 (by simp; exact hbm); have a1 := (fun o => (hbx.kept (World.grownBy_alloc _ o none) (by simp)).fz 0); have hbl := hbx.lt) | fail)
    go_ret
    have hkm : Kp (fun k => k = mb) w w1 := (Kp.refl _ _).step hg1 (fun i hi => by injection hi with hi; exact .inl hi.symm)
    obtain ⟨hI, hK1⟩ := hpop w1 g _ hM1 hkm
    have hal := World.grownBy_alloc (w1.setCell ⟨b, 0, none⟩ (.slice (some ⟨gb, 0, none⟩) g cap)) (.cells #[.int .u64 (r g).h, .int .i64 (r g).x, .int .i64 (r g).t] 123) none
    rw [hm] at hal
    exact ⟨rfl, hK1.step hal (by simp), _, r, _, hI.kept0 hal, hfd, hhc⟩
end

end Go.Proofs.Ytagcmfaljfaikaa
