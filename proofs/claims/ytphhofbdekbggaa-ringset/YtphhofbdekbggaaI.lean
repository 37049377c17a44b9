/-
  Points: of a name, n numbers of 32 bits.
-/
import Derived.Test.YtphhofbdekbggaaH
import Derived.Lib.ConvBytes
namespace Go.Proofs.Ytphhofbdekbggaa
open Go.RowKit
set_option linter.unusedVariables false

/-- []byte(s). -/
theorem str_bytes (w : World) (xs : List Int) (hb : isBytes xs) : ∃ W c, (convert 9 45 (.string (strOfNums xs))).run Try.prog w = .ok (.slice (some ⟨w.heap.size, 0, none⟩) xs.length c) W ∧ w.grownBy W none ∧ Has W (some ⟨w.heap.size, 0, none⟩) xs.length xs := by
  refine ⟨Lib.bytesWorld w 5 (strOfNums xs), grownCap w xs.length 0 5, ?_, ⟨rfl, rfl, rfl, by rw [Lib.bytesWorld_size]; omega, fun k hk _ => Lib.bytesWorld_at_old w 5 _ k hk⟩, rfl, fun _ => ⟨_, _, rfl, fun i hi => ?_⟩⟩
  · have := Lib.run_convert_string_bytes (P := Try.prog) w 9 45 5 (strOfNums xs) Try.underlying9 Try.underlying45 Try.underlying5
    rw [strOfNums_size] at this
    exact this
  · rw [Nat.zero_add, Lib.bytesWorld_cell w 5 _ i (by rw [strOfNums_size]; exact hi), strOfNums_data]
    have h1 := hb _ (getD_mem hi)
    have h2 : ((xs.map fun n => UInt8.ofNat n.toNat).getD i 0).toNat = (xs.getD i 0).toNat := by
      simp only [List.getD, List.getElem?_map, List.getElem?_eq_getElem hi, Option.map_some, Option.getD_some] at h1 ⊢
      rw [UInt8.toNat_ofNat']
      omega
    rw [h2]
    congr 2
    omega

theorem Try.info47 : (Try.prog.info? 47).map (fun i => (i.zero, i.size, i.bytes)) = some (some (.int .u32 0), 1, 4) := by kernel_rfl
/-- Numbers of 32 bits, as values. -/
def uvals (zs : List Nat) : List Value := zs.map fun (n : Nat) => Value.int .u32 (n : Int)
theorem made_u (N : Nat) : madeCells (Value.int .u32 0).cells N = (uvals (List.replicate N 0)).toArray := by
  apply Array.ext'
  apply List.ext_getElem?
  intro i
  by_cases h : i < N <;> simp [madeCells, Value.cells, uvals, h, Nat.mod_one]
theorem run_make_u (N : Nat) (h : N ≤ 512) (w : World) : (Instr.makeSlice 118 (.int .i64 N) (.int .i64 N)).run Try.prog w = .ok (.slice (some ⟨w.heap.size, 0, none⟩) N N) (w.alloc (.cells (uvals (List.replicate N 0)).toArray 47)) := by
  obtain ⟨i0, hi, hz0, hz1, hz2⟩ := info_parts Try.info47
  have := run_make (P := Try.prog) w 118 47 i0 (.int .u32 0) Try.underlying118 hi hz0 .i64 .i64 N N (by omega) (by omega) (by rw [hz2]; omega) (by omega)
  rw [this, hz1]
  simp [made_u]

/-- The k-th point of a name. -/
def ptN (xs : List Int) (k : Nat) : Nat := point (fon (fnv (sumB xs) 45) (dig k))
theorem ptN_lt (xs : List Int) (k : Nat) : ptN xs k < 4294967296 := point_lt _
/-- The first n points of a name. -/
def pts (xs : List Int) (n : Nat) : List Nat := (List.range n).map (ptN xs)
theorem pts_succ (xs : List Int) (n : Nat) : pts xs (n + 1) = pts xs n ++ [ptN xs n] := by simp [pts, List.range_succ]
theorem pts_len (xs : List Int) (n : Nat) : (pts xs n).length = n := by simp [pts]
/-- The points so far, zeros behind. -/
def ptz (xs : List Int) (n k : Nat) : Array Value := (uvals (pts xs k ++ List.replicate (n - k) 0)).toArray
theorem ptz_size (xs : List Int) (n k : Nat) (h : k ≤ n) : (ptz xs n k).size = n := by simp [ptz, uvals, pts_len]; omega
theorem ptz_set (xs : List Int) (n k : Nat) (h : k < n) : (ptz xs n k).setIfInBounds k (.int .u32 (ptN xs k : Nat)) = ptz xs n (k + 1) := by
  apply Array.ext'
  have hr : List.replicate (n - k) (0 : Nat) = 0 :: List.replicate (n - (k + 1)) 0 := by
    rw [show n - k = (n - (k + 1)) + 1 by omega, List.replicate_succ]
  simp only [ptz, Array.toList_setIfInBounds, uvals, pts_succ, hr, List.map_append, List.map_cons]
  rw [List.set_append_right _ _ (by simp [pts_len])]
  simp [pts_len]
theorem ptz_zero (xs : List Int) (n : Nat) : ptz xs n 0 = (uvals (List.replicate n 0)).toArray := by simp [ptz, pts]
theorem ptz_all (xs : List Int) (n : Nat) : ptz xs n n = (uvals (pts xs n)).toArray := by simp [ptz]

/-- A row of numbers of 32 bits of the call's own. -/
def OwnU (B : Nat) (w : World) (v : Value) (us : List Nat) : Prop := w.ownsRow B 47 1 v us.length (uvals us)
theorem OwnU.of_box {B : Nat} {w : World} {g : Nat} {us : List Nat} (h : Box w 47 g (uvals us).toArray) (hB : B ≤ g) (hl : us.length ≤ 512) : OwnU B w (.slice (some ⟨g, 0, none⟩) us.length us.length) us :=
  ⟨by simp [uvals], .inr ⟨g, us.length, _, rfl, hB, h, Nat.le_refl _, by unfold maxLen; omega, by simp [uvals], List.take_of_length_le (by simp [uvals])⟩⟩

set_option maxRecDepth 100000 in
theorem points_20_no (s : ByteArray) (n : Int) (hs : s.size ≤ maxLen) (h : s.size < 1 ∨ 250 < s.size ∨ n < 1 ∨ 512 < n) (w : World) :
    Calls Try.prog 84 #[.string s, .int .i64 n] w fun e w' => e = .returned (.tuple #[.slice none 0 0, .int .i64 1]) ∧ w' = w := by
  unfold maxLen at hs
  generalize hm : s.size = m at *
  by_cases h1 : m < 1
  · clear h
    go_enter Try.func84, Try.ntmps84
    go_wp2
    go_ret2
    exact ⟨rfl, rfl⟩
  by_cases h2 : 250 < m
  · clear h
    go_enter Try.func84, Try.ntmps84
    go_wp2
    go_ret2
    exact ⟨rfl, rfl⟩
  by_cases h3 : n < 1
  · clear h
    go_enter Try.func84, Try.ntmps84
    go_wp2
    go_ret2
    exact ⟨rfl, rfl⟩
  have h4 : 512 < n := by omega
  clear h
  go_enter Try.func84, Try.ntmps84
  go_wp2
  go_ret2
  exact ⟨rfl, rfl⟩

set_option maxRecDepth 100000 in
set_option maxHeartbeats 1000000 in
theorem points_20 (xs : List Int) (n : Nat) (hb : isBytes xs) (h1 : 1 ≤ xs.length) (h2 : xs.length ≤ 250) (h3 : 1 ≤ n) (h4 : n ≤ 512) (w : World) :
    Calls Try.prog 84 #[.string (strOfNums xs), .int .i64 n] w fun e w' => ∃ v, e = .returned (.tuple #[v, .int .i64 0]) ∧ OwnU w.heap.size w' v (pts xs n) ∧ w.grownBy w' none := by
  have hsz := strOfNums_size xs
  obtain ⟨W, c, hcv, hF, hH⟩ := str_bytes w xs hb
  have hs := sum_11 hH hb c (by omega)
  have hnx := next_27 (sumB xs) 45 (sumB_lt _) (by omega)
  simp only [Int.cast_ofNat_Int] at hnx
  have hl := fnv_lt (sumB xs) 45
  have hmk := run_make_u n h4
  have HP : Hid (∀ k, ptN xs k = point (fon (fnv (sumB xs) 45) (dig k))) := fun k => rfl
  have HB := sumB_lt xs
  generalize fnv (sumB xs) 45 = st at *
  generalize sumB xs = sb at *
  generalize hS : strOfNums xs = s at *
  generalize hm : xs.length = m at *
  clear hS hm
  go_enter Try.func84, Try.ntmps84
  go_wp2_with (first | (go_at_call 54; go_must (refine hs.mono ?_); rintro e W ⟨rfl, rfl⟩) | (go_at_call 72; go_must (refine (hnx _).mono ?_); rintro e W ⟨rfl, rfl⟩) | fail)
  clear hcv hs hH hnx hmk
  have hb0 := Box.new W 47 (uvals (List.replicate n 0)).toArray
  have hg0 := gb_alloc hF (.cells (uvals (List.replicate n 0)).toArray 47)
  have hgs := hF.size
  generalize W.heap.size = g at *
  generalize W.alloc (.cells (uvals (List.replicate n 0)).toArray 47) = W1 at *
  go_loopw [33] (fun x wr => ∃ (k : Nat), k ≤ n ∧ x = .int .i64 k ∧ Box wr 47 g (ptz xs n k) ∧ w.grownBy wr none) (fun x _ => n - (intOf x).toNat)
  case atStart => exact ⟨0, by omega, rfl, by rw [ptz_zero]; exact hb0, hg0⟩
  case round =>
    clear hb0 hg0
    obtain ⟨k, hk, rfl, hbx, hg⟩ := hrel
    by_cases hlt : k < n
    · have hd := digits_33 k st hl (by omega)
      have hp := point_18 (fon st (dig k)) (fon_lt _ _ hl)
      have hpl := point_lt (fon st (dig k))
      have hfl := fon_lt st (dig k) hl
      have HS := ptz_set xs n k hlt
      rw [HP.out k] at HS
      generalize point (fon st (dig k)) = pt at *
      generalize fon st (dig k) = dd at *
      have HS : Hid _ := HS
      have hd3 : decide (k < n) = true := by simp; omega
      have hfz := hbx.fz k
      have hcl := hbx.cell k
      have hbs := hbx.set k (.int .u32 (pt : Int))
      rw [HS.out] at hbs
      have hgs2 := gb_far hg (gb_setCell (gb_refl wr (some g)) (i := k) (.int .u32 (pt : Int))) (B := g) (fun i e => by cases e; exact Nat.le_refl _) (by omega)
      rw [show (ptz xs n k)[k]? = some (ptz xs n k)[k]! from by
        have := ptz_size xs n k hk
        rw [Array.getElem?_eq_getElem (by omega), getElem!_pos _ _ (by omega)]] at hcl
      generalize (ptz xs n k)[k]! = old at *
      have HBS : Hid _ := hbs
      have HGS : Hid _ := hgs2
      clear HS hbs hgs2
      go_wp2_with (first | (go_at_call 93; go_must (refine (hd _).mono ?_); rintro e w' ⟨rfl, rfl⟩) | (go_at_call 53; go_must (refine (hp _).mono ?_); rintro e w' ⟨rfl, rfl⟩) | fail)
      go_roundw
      case rel => exact ⟨k + 1, by omega, by go_num, HBS.out, HGS.out⟩
      case measure => simp [intOf]; omega
    · obtain rfl : k = n := by omega
      have HO : Hid (OwnU w.heap.size wr (.slice (some ⟨g, 0, none⟩) k k) (pts xs k)) := by
        rw [ptz_all] at hbx
        have := OwnU.of_box (B := w.heap.size) hbx (by omega) (by rw [pts_len]; omega)
        rw [pts_len] at this
        exact this
      clear hbx
      go_wp2
      go_ret2
      exact ⟨_, rfl, HO.out, hg⟩

end Go.Proofs.Ytphhofbdekbggaa
