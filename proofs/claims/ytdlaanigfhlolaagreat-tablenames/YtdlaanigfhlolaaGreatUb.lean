import Derived.Test.YtdlaanigfhlolaaGreatUa
/-
  The sum; a table in memory; a key's bucket.
-/
namespace Go.Proofs.YtdlaanigfhlolaaGreat
open Go.RowKit
set_option linter.unusedVariables false

/-- The sum with one byte more. -/
def fnv (h c : Nat) : Nat := (h ^^^ c) * 1099511628211 % 18446744073709551616
/-- FNV-1a, from h on. -/
def fon (h : Nat) (b : List Nat) : Nat := b.foldl fnv h
theorem fnv_lt (h c : Nat) : fnv h c < 18446744073709551616 := Nat.mod_lt _ (by decide)
theorem fon_lt (h : Nat) (b : List Nat) (hh : h < 18446744073709551616) : fon h b < 18446744073709551616 := by
  induction b generalizing h with
  | nil => exact hh
  | cons c b ih => unfold fon at *; rw [List.foldl_cons]; exact ih _ (fnv_lt _ _)
theorem fon_snoc (h : Nat) (a : List Nat) (c : Nat) : fon h (a ++ [c]) = fnv (fon h a) c := by
  unfold fon
  rw [List.foldl_append, List.foldl_cons, List.foldl_nil]
theorem fon_nil (h : Nat) : fon h [] = h := by unfold fon; exact List.foldl_nil
theorem fnv_w (h c : Nat) (hh : h < 18446744073709551616) (hc : c < 256) : IntKind.u64.wrap (bits .xor .u64 (h : Int) (c : Int) * 1099511628211) = ((fnv h c : Nat) : Int) := by
  rw [bits_xor_u64_nat _ _ hh (by omega), IntKind.wrap_u64]
  unfold fnv
  rw [Int.natCast_emod, Int.natCast_mul]
  rfl
theorem next_any (h c : Nat) (hh : h < 18446744073709551616) (hc : c < 256) (w : World) :
    Calls Tryz.prog 155 #[.int .u64 h, .int .u8 c] w fun e w' => e = .returned (.int .u64 (fnv h c : Nat)) ∧ w' = w := by
  have hw := fnv_w h c hh hc
  obtain ⟨v, hv⟩ : ∃ v, v = fnv h c := ⟨_, rfl⟩
  have HV : Hid (v = fnv h c) := hv
  rw [← hv] at hw ⊢
  clear hv
  go_enter Tryz.func155, Tryz.ntmps155
  go_wp2
  go_ret
  exact ⟨rfl, rfl⟩
/-- Bytes, as numbers without a sign. -/
def nb (xs : List Int) : List Nat := xs.map Int.toNat
theorem nb_app (xs ys : List Int) : nb (xs ++ ys) = nb xs ++ nb ys := List.map_append
theorem nb_take_succ (xs : List Int) (k : Nat) (h : k < xs.length) : nb (xs.take (k + 1)) = nb (xs.take k) ++ [(xs.getD k 0).toNat] := by
  rw [List.take_add_one, List.getElem?_eq_getElem h, nb_app]
  simp [nb, List.getD, h]
theorem byte_at {xs : List Int} (hb : isBytes xs) (k : Nat) (h : k < xs.length) : ∃ c : Nat, xs.getD k 0 = (c : Int) ∧ c < 256 ∧ (xs.getD k 0).toNat = c := by
  have := hb _ (getD_mem h)
  exact ⟨(xs.getD k 0).toNat, by omega, by omega, rfl⟩
/-- The sum of bytes. -/
def sumB (xs : List Int) : Nat := fon 14695981039346656037 (nb xs)
theorem sumB_lt (xs : List Int) : sumB xs < 18446744073709551616 := fon_lt _ _ (by decide)

theorem sum_any {w : World} {a : Option Addr} {n : Nat} {xs : List Int} (hy : Has w a n xs) (hb : isBytes xs) (c : Nat) (hn : n ≤ 281474976710656) :
    Calls Tryz.prog 140 #[.slice a n c] w fun e w' => e = .returned (.int .u64 (sumB xs : Nat)) ∧ w' = w := by
  obtain ⟨hl, hcs⟩ := hy
  go_enter Tryz.func140, Tryz.ntmps140
  go_wp2
  go_loopw [3, 8] (fun x y wr => ∃ (h k : Nat), h < 18446744073709551616 ∧ k ≤ n ∧ x = .int .u64 h ∧ y = .int .i64 k ∧ h = fon 14695981039346656037 (nb (xs.take k)) ∧ wr = w) (fun _ y _ => n - (intOf y).toNat)
  case atStart => exact ⟨14695981039346656037, 0, by decide, by omega, rfl, rfl, by rw [List.take_zero]; exact (fon_nil _).symm, rfl⟩
  case round =>
    obtain ⟨h, k, hh, hk, rfl, rfl, he, rfl⟩ := hrel
    have HE : Hid (h = fon 14695981039346656037 (nb (xs.take k))) := he
    clear he
    by_cases hlt : k < n
    · obtain ⟨b, o, rfl, hcc⟩ := hcs (by omega)
      have hc := hcc k hlt
      obtain ⟨z, hz, hz2, hz3⟩ := byte_at hb k (by omega)
      have HR : Hid (fnv h z = fon 14695981039346656037 (nb (xs.take (k + 1)))) := by
        show _ = _
        rw [nb_take_succ _ _ (by omega), fon_snoc, ← HE.out, hz3]
      rw [hz] at hc
      have hx := next_any h z hh hz2
      have hx2 := fnv_lt h z
      generalize fnv h z = h2 at *
      clear hcc hcs hb hz hz3 HE
      go_wp2_with (first | (go_at_call 155; go_must (refine (hx _).mono ?_); rintro e w' ⟨rfl, rfl⟩) | fail)
      go_roundw
      case rel => exact ⟨h2, k + 1, hx2, by omega, rfl, by go_num, HR.out, by first | rfl | trivial⟩
      case measure => simp [intOf]; omega
    · obtain rfl : k = n := by omega
      have HR : Hid (h = sumB xs) := by
        show _ = _
        rw [HE.out, ← hl, List.take_length]; rfl
      clear hcs hb HE
      go_wp2
      go_ret
      exact ⟨by rw [← HR.out]; rfl, rfl⟩

theorem among_any (n s : Nat) (h0 : 0 < n) (h1 : n ≤ 1048576) (hs : s < 18446744073709551616) (w : World) : Calls Tryz.prog 141 #[.int .i64 n, .int .u64 s] w fun e w' => e = .returned (.int .i64 (s % n : Nat)) ∧ w' = w := by
  have hm := Nat.mod_lt s h0
  have hne : decide (n = 0) = false := by simp; omega
  have hne2 : ¬ ((n : Int) = 0) := by omega
  have hmi : (s : Int) % (n : Int) = ((s % n : Nat) : Int) := by simp
  have hmt : (s : Int).tmod (n : Int) = ((s % n : Nat) : Int) := by rw [Int.tmod_eq_emod_of_nonneg (by omega)]; simp
  generalize s % n = r at *
  go_enter Tryz.func141, Tryz.ntmps141
  go_wp2
  go_ret
  exact ⟨by first | rfl | simp, rfl⟩

/-- A table without old buckets. -/
def tabC (sb : Nat) (most items buckets moving state : Int) (hb n : Nat) : Array Value := #[.pointer (some ⟨sb, 0, none⟩), .int .i64 most, .int .i64 items, .int .i64 buckets, .int .i64 moving, .int .i64 state, .slice (some ⟨hb, 0, none⟩) n n, .slice none 0 0]
def u64s (xs : List Nat) : List Value := xs.map fun (n : Nat) => Value.int .u64 (n : Int)
structure IsT (w : World) (tb hb sb : Nat) (most items buckets moving state : Int) (hs : List Nat) : Prop where
  box : Box w 111 tb (tabC sb most items buckets moving state hb hs.length)
  hd : w.heap[hb]? = some (.cells (u64s hs).toArray 60 (0, 0))
  len : 0 < hs.length ∧ hs.length ≤ 1048576
section
variable {w w' : World} {tb hb sb : Nat} {mo it bu mv st : Int} {hs : List Nat}
theorem IsT.kept0 (h : IsT w tb hb sb mo it bu mv st hs) (hf : w.grownBy w' none) : IsT w' tb hb sb mo it bu mv st hs :=
  ⟨h.box.kept hf (by simp), by rw [hf.block hb (lt_of_block h.hd) (by simp)]; exact h.hd, h.len⟩
theorem IsT.kept {F : Nat → Prop} (h : IsT w tb hb sb mo it bu mv st hs) (hf : Kp F w w') (h1 : ¬ F tb) (h2 : ¬ F hb) : IsT w' tb hb sb mo it bu mv st hs :=
  ⟨hf.box h.box h1, by rw [hf.block hb (lt_of_block h.hd) h2]; exact h.hd, h.len⟩
theorem IsT.hcell (h : IsT w tb hb sb mo it bu mv st hs) {i : Nat} (hi : i < hs.length) : w.cell? ⟨hb, i, none⟩ = some (.int .u64 (hs.getD i 0 : Nat)) := by
  rw [cell_of_row w hb i _ _ _ h.hd]
  simp [u64s, hi, List.getD]
theorem IsT.fz (h : IsT w tb hb sb mo it bu mv st hs) (i : Nat) : w.frozen? ⟨hb, i, none⟩ = false := by simp [World.frozen?, h.hd]
theorem IsT.ne (h : IsT w tb hb sb mo it bu mv st hs) : hb ≠ tb := ne_of_type h.hd h.box (by decide)

set_option maxRecDepth 100000 in
theorem bucket_any (h : IsT w tb hb sb mo it bu mv st hs) {a : Option Addr} {n c : Nat} {xs : List Int} (hy : Has w a n xs) (hx : isBytes xs) (hn : n ≤ 281474976710656) :
    Calls Tryz.prog 111 #[.pointer (some ⟨tb, 0, none⟩), .slice a n c] w fun y w' => y = .returned (.pointer (some ⟨hb, sumB xs % hs.length, none⟩)) ∧ w.grownBy w' none := by
  have hsum := fun W (hf : w.grownBy W none) => sum_any (hy.kept0 hf) hx c hn
  have hlt := sumB_lt xs
  have ham := fun W => among_any hs.length (sumB xs) h.len.1 h.len.2 hlt W
  have hmod := Nat.mod_lt (sumB xs) h.len.1
  have c6 := h.box.cell 6
  have c7 := h.box.cell 7
  simp [tabC] at c6 c7
  have hl := h.len
  generalize sumB xs % hs.length = r at *
  generalize sumB xs = s at *
  generalize hs.length = m at *
  have hrz : (r : Int) < (m : Int) := by omega
  clear h hy
  go_enter Tryz.func111, Tryz.ntmps111
  go_wp2_with (first | (go_at_call 140; go_must (refine (hsum _ (gb_refl _ _)).mono ?_); rintro y w1 ⟨rfl, rfl⟩) | fail)
  go_quiet ((go_at_call 141; with_reducible exact Calls.quiet_of_same (ham _)))
  go_wp2
  go_ret
  exact ⟨rfl, gb_drewN (gb_refl _ _) _⟩
end

section
variable {w : World} {tb hb sb : Nat} {mo it bu mv st : Int} {hs : List Nat} {F : Nat → Prop} {B : Bl} {b c d e f g : Int} {A : Ab} {zs : List Int}
theorem has_vals {w : World} {g : Nat} {xs : List Int} (h : w.heap[g]? = some (.cells (vals xs) 5 (0, 0))) : Has w (some ⟨g, 0, none⟩) xs.length xs := by
  refine ⟨rfl, fun _ => ⟨g, 0, rfl, fun i hi => ?_⟩⟩
  rw [Nat.zero_add, cell_of_row w g i _ _ _ h]
  simp [vals, List.getD, hi]

set_option maxRecDepth 100000 in
set_option maxHeartbeats 1000000 in
theorem key_yes (hT : IsT w tb hb sb mo it bu mv st hs) (h : IsS w sb F B b c d e f g A zs) (hA : Fit2 A) {H p k : Nat} (hH : IsH A H p k) (t : It) (hI : IsI zs (A.place p k) t) (hfit : 58 + t.key.length + t.val.length ≤ A.sz (A.own p)) :
    Calls Tryz.prog 77 #[.pointer (some ⟨tb, 0, none⟩), .int .u64 H] w fun y w' => ∃ g, y = .returned (.slice (some ⟨g, 0, none⟩) t.key.length t.key.length) ∧ w.heap.size ≤ g ∧ w.grownBy w' none ∧ Has w' (some ⟨g, 0, none⟩) t.key.length t.key := by
  have hP := pl_of h hA.toFit1 hH.hp hH.hk
  have hk1 := hI.k1
  have hvn := hI.vn
  have hL := fun W (hf : w.grownBy W none) => lengths_yes (h.kept0 hf) hA hH t.key.length hI.kl (by omega) t.val.length hI.vl (by omega)
  have hat := fun W (hf : w.grownBy W none) => at_yes (h.kept0 hf) hA hH
  have har := fun W (hf : w.grownBy W none) => arena_39 (h.kept0 hf)
  have hrd := fun W (hf : w.grownBy W none) => (read_yes ((h.kept0 hf).ar) ((A.place p k + 56 : Nat) : Int) t.key.length (hP.th 56 t.key.length (by omega))).mono (R' := fun y w' => ∃ g, y = .returned (.tuple #[.slice (some ⟨g, 0, none⟩) t.key.length t.key.length, .int .i64 0]) ∧ W.heap.size ≤ g ∧ W.grownBy w' none ∧ Has w' (some ⟨g, 0, none⟩) t.key.length t.key) (by
    rintro y w' ⟨rfl, hf2, hc⟩
    rw [Int.toNat_natCast, Int.toNat_natCast, hI.key] at hc
    exact ⟨_, rfl, Nat.le_refl _, hf2, has_vals hc⟩)
  rw [show ((A.place p k + 56 : Nat) : Int) = (A.place p k : Int) + 56 by omega] at hrd
  have hpb := hP.hb
  have c0 := hT.box.cell 0
  simp [tabC] at c0
  have hkz : decide ((t.key.length : Int) = 0) = false := decide_eq_false (by omega)
  have hkz2 : ¬ ((t.key.length : Int) = 0) := by omega
  clear h hH hI hT hP hfit
  generalize t.key = key at *
  generalize t.val = val at *
  generalize key.length = kl at *
  generalize A.place p k = pl at *
  generalize A.own p = op at *
  generalize A.sz op = s at *
  go_enter Tryz.func77, Tryz.ntmps77
  go_wp2_with (first | (go_at_call 123; go_must (refine (hL _ (gb_refl _ _)).mono ?_); rintro y w1 ⟨rfl, hf1⟩; (have c1 := gb_cellN hf1 c0)) | (go_at_call 124; go_must (refine (hat _ hf1).mono ?_); rintro y w2 ⟨rfl, hf2⟩; (have c2 := gb_cellN hf2 c1); (have hf12 := gb_trans hf1 hf2)) | (go_at_call 125; go_must (refine (har _ hf12).mono ?_); rintro y w' ⟨rfl, rfl⟩) | (go_at_call 126; go_must (refine (hrd _ hf12).mono ?_); rintro y w3 ⟨g1, rfl, hg1, hf3, hh⟩) | fail)
  go_ret
  exact ⟨g1, rfl, by have := hf12.size; omega, gb_trans hf12 hf3, hh⟩
end

end Go.Proofs.YtdlaanigfhlolaaGreat
