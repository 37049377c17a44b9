import Derived.Test.YtoaaaeefcipdcaaC
import Derived.Laws.BytesArg
/-
  Bytes in a slice value; equality of two.
-/
namespace Go.Proofs.Ytoaaaeefcipdcaa
open Go.RowKit
set_option linter.unusedVariables false

def isBytes (xs : List Int) : Prop := ∀ z ∈ xs, 0 ≤ z ∧ z < 256

/-- The slice (a, n, c) holds the bytes xs in this world. -/
def Has (w : World) (a : Option Addr) (n : Nat) (xs : List Int) : Prop :=
  xs.length = n ∧ (0 < n → ∃ b o, a = some ⟨b, o, none⟩ ∧ ∀ i, i < n → w.cell? ⟨b, o + i, none⟩ = some (.int .u8 (xs.getD i 0)))

theorem conv_zero {P : Program} (w : World) (src e : TypeId) (hs : P.underlying src = some (.slice e)) (he : P.underlying e = some (.int .u8)) (a : Option Addr) (c : Nat) (dst : TypeId) (hd : P.underlying dst = some .string) :
    (convert src dst (.slice a 0 c)).run P w = .ok (.string (strOfNums [])) w := by
  cases a with
  | none => exact run_convert_bytes_nil w src e hs he 0 c dst hd
  | some a =>
    rw [run_convert_bytes_string w src dst e _ 0 c hs he hd]
    simp [Conv.bytesToString, loadCells, loadCellsFrom]
    rfl

theorem Has.conv {w : World} {a : Option Addr} {n : Nat} {xs : List Int} (h : Has w a n xs) (c : Nat) : (convert 42 9 (.slice a n c)).run Try.prog w = .ok (.string (strOfNums xs)) w := by
  obtain ⟨hl, hc⟩ := h
  rcases Nat.eq_zero_or_pos n with hn | hn
  · subst hn
    obtain rfl : xs = [] := List.eq_nil_of_length_eq_zero hl
    exact conv_zero w 42 5 Try.underlying42 Try.underlying5 a c 9 Try.underlying9
  · obtain ⟨b, o, rfl, hcc⟩ := hc hn
    exact run_convert_bytes_arg (P := Try.prog) w 42 5 Try.underlying42 Try.underlying5 b o n c xs hl hcc 9 Try.underlying9

theorem map_inj : ∀ {xs ys : List Int}, isBytes xs → isBytes ys → (xs.map fun n => UInt8.ofNat n.toNat) = (ys.map fun n => UInt8.ofNat n.toNat) → xs = ys
  | [], [], _, _, _ => rfl
  | [], _ :: _, _, _, h => by simp at h
  | _ :: _, [], _, _, h => by simp at h
  | x :: xs, y :: ys, hx, hy, h => by
    simp only [List.map_cons, List.cons.injEq] at h
    have a := hx x (by simp)
    have c := hy y (by simp)
    have e : (UInt8.ofNat x.toNat).toNat = (UInt8.ofNat y.toNat).toNat := by rw [h.1]
    simp only [UInt8.toNat_ofNat'] at e
    have e1 : x = y := by omega
    rw [e1, map_inj (fun z hz => hx z (by simp [hz])) (fun z hz => hy z (by simp [hz])) h.2]

theorem str_inj {xs ys : List Int} (hx : isBytes xs) (hy : isBytes ys) : ((strOfNums xs).toList == (strOfNums ys).toList) = decide (xs = ys) := by
  rw [ByteArray.toList_eq, ByteArray.toList_eq, strOfNums_data, strOfNums_data]
  by_cases h : xs = ys
  · subst h; simp
  · have : ¬ (xs.map fun n => UInt8.ofNat n.toNat) = (ys.map fun n => UInt8.ofNat n.toNat) := fun e => h (map_inj hx hy e)
    simp only [h, decide_false]
    exact beq_eq_false_iff_ne.2 this

theorem equal_82 {w : World} {a1 a2 : Option Addr} {n1 n2 : Nat} {xs ys : List Int} (h1 : Has w a1 n1 xs) (h2 : Has w a2 n2 ys) (hx : isBytes xs) (hy : isBytes ys) (c1 c2 : Nat) :
    Calls Try.prog 117 #[.slice a1 n1 c1, .slice a2 n2 c2] w fun e w' => e = .returned (.bool (decide (xs = ys))) ∧ w = w' := by
  have k1 := h1.conv c1
  have k2 := h2.conv c2
  have HS : Hid (((strOfNums xs).toList == (strOfNums ys).toList) = decide (xs = ys)) := str_inj hx hy
  go_enter Try.func117, Try.ntmps117
  go_wp2
  go_ret
  exact ⟨congrArg (fun b => Ending.returned (Value.bool b)) HS.out, rfl⟩

theorem equal_67 {w : World} {a1 a2 : Option Addr} {n1 n2 : Nat} {xs ys : List Int} (h1 : Has w a1 n1 xs) (h2 : Has w a2 n2 ys) (hx : isBytes xs) (hy : isBytes ys) (c1 c2 : Nat) :
    Calls Try.prog 37 #[.slice a1 n1 c1, .slice a2 n2 c2] w fun e w' => e = .returned (.bool (decide (xs = ys))) ∧ w = w' := by
  have k1 := h1.conv c1
  have k2 := h2.conv c2
  have HS : Hid (((strOfNums xs).toList == (strOfNums ys).toList) = decide (xs = ys)) := str_inj hx hy
  go_enter Try.func37, Try.ntmps37
  go_wp2
  go_ret
  exact ⟨congrArg (fun b => Ending.returned (Value.bool b)) HS.out, rfl⟩

theorem Has.drewN {w : World} {a : Option Addr} {n : Nat} {xs : List Int} (h : Has w a n xs) (q : Nat) : Has (w.drewN q) a n xs := h

/-- A part of an arena's bytes. -/
def cut (zs : List Int) (x n : Nat) : List Int := (zs.drop x).take n
theorem length_cut {zs : List Int} {x n : Nat} (h : x + n ≤ zs.length) : (cut zs x n).length = n := by simp [cut]; omega
theorem getD_cut {zs : List Int} {x n i : Nat} (h : i < n) : (cut zs x n).getD i 0 = zs.getD (x + i) 0 := by
  simp [cut, h, List.getElem?_drop]
theorem isBytes_cut {zs : List Int} (h : isBytes zs) (x n : Nat) : isBytes (cut zs x n) := fun z hz => h z (List.mem_of_mem_drop (List.mem_of_mem_take hz))

theorem IsA.has {w : World} {b g ps pages : Nat} {zs : List Int} (h : IsA w b g ps pages zs) {x n : Int} (ht : There ps zs.length x n) {o : Nat} (ho : 0 < n → o = x.toNat) : Has w (some ⟨g, o, none⟩) n.toNat (cut zs x.toNat n.toNat) := by
  obtain ⟨h1, h2, h3, h4⟩ := ht
  refine ⟨length_cut (by omega), fun hn => ⟨g, o, rfl, fun i hi => ?_⟩⟩
  rw [ho (by omega), getD_cut hi]
  exact cell_of_vals h.hg _ (by omega)

theorem same_yes {w : World} {b g ps pages : Nat} {zs : List Int} (hA : IsA w b g ps pages zs) (x : Int) (a : Option Addr) (n c : Nat) (ys : List Int) (hy : Has w a n ys) (hb : isBytes ys) (hn : (n : Int) ≤ 9223372036854775807) (ht : There ps zs.length x n) :
    Calls Try.prog 53 #[.pointer (some ⟨b, 0, none⟩), .int .i64 x, .slice a n c] w fun e w' => e = .returned (.bool (decide (cut zs x.toNat n = ys))) ∧ w.grownBy w' none := by
  go_enter Try.func53, Try.ntmps53
  go_wp2_with (first | (go_at_call 116; go_must (refine (hA.part_yes x n ht).mono ?_); rintro e w' ⟨⟨o, rfl, ho⟩, q, rfl⟩) | (go_at_call 117; go_must (refine (equal_82 ((hA.has ht ho).drewN q) (hy.drewN q) (isBytes_cut hA.hz _ _) hb _ _).mono ?_); rintro e w' ⟨rfl, rfl⟩))
  go_ret
  exact ⟨rfl, gb_drewN (gb_refl _ _) _⟩

theorem same_no {w : World} {b g ps pages : Nat} {zs : List Int} (hA : IsA w b g ps pages zs) (x : Int) (a : Option Addr) (n c : Nat) (hx : x ≤ 9223372036854775807) (hn : (n : Int) ≤ 9223372036854775807) (ht : ¬ There ps zs.length x n) :
    Calls Try.prog 53 #[.pointer (some ⟨b, 0, none⟩), .int .i64 x, .slice a n c] w fun e w' => e = .returned (.bool false) ∧ w.grownBy w' none := by
  go_enter Try.func53, Try.ntmps53
  go_wp2_with (go_at_call 116; go_must (refine (hA.part_no x n (by omega) ht).mono ?_); rintro e w' ⟨rfl, q, rfl⟩)
  go_ret
  exact ⟨rfl, gb_drewN (gb_refl _ _) _⟩

end Go.Proofs.Ytoaaaeefcipdcaa
