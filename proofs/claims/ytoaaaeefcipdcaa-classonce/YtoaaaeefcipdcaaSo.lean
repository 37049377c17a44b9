import Derived.Test.YtoaaaeefcipdcaaSn
/-
  layHead, own.
-/
namespace Go.Proofs.Ytoaaaeefcipdcaa
open Go.RowKit
set_option linter.unusedVariables false

/-- The first bytes of a chunk that is taken. -/
def headZ (zs : List Int) (x g : Nat) : List Int := putL (lay zs x (List.replicate 56 0)) (x + 12) 4 g

section
variable {w : World} {sb : Nat} {F : Nat → Prop} {B : Bl} {b c d e f g : Int} {A : Ab} {zs : List Int}

theorem there_of (h : IsS w sb F B b c d e f g A zs) (hA : Fit1 A) {p k : Nat} (hp : p < A.np) (hk : k < A.each (A.own p)) {o n : Nat} (hon : o + n ≤ A.sz (A.own p)) : There A.ps zs.length ((A.place p k + o : Nat) : Int) n := by
  obtain ⟨h1, h2, h3⟩ := place_div hA hp hk
  have h4 := h.ar.hN
  have h5 := hA.nm
  have h6 := hA.ps0
  have h7 : (p + 1) * A.ps ≤ A.m * A.ps := Nat.mul_le_mul_right _ (by omega)
  rw [Nat.mul_comm A.m] at h7
  have hea := (hA.toSzs.each (hA.on p hp)).2.2
  have h8 : (k + 1) * A.sz (A.own p) ≤ A.each (A.own p) * A.sz (A.own p) := Nat.mul_le_mul_right _ hk
  rw [Nat.add_mul, Nat.one_mul] at h8
  have h9 : p * A.ps + (k * A.sz (A.own p)) = A.place p k := rfl
  rcases Nat.eq_zero_or_pos n with hn | hn
  · subst hn
    refine ⟨by omega, by omega, by omega, ?_⟩
    have : ((A.place p k + o : Nat) : Int) % A.ps < A.ps := Int.emod_lt_of_pos _ (by omega)
    omega
  · have e : (A.place p k + o) % A.ps = k * A.sz (A.own p) + o := by
      rw [← h9, Nat.add_assoc, Nat.mul_comm p, Nat.mul_add_mod, Nat.mod_eq_of_lt (by omega)]
    have e2 : ((A.place p k + o : Nat) : Int) % A.ps = ((k * A.sz (A.own p) + o : Nat) : Int) := by rw [← e]; exact (Int.natCast_emod _ _).symm
    refine ⟨by omega, by omega, by omega, ?_⟩
    rw [e2]; omega

theorem lay_54 (h : IsS w sb F B b c d e f g A zs) (hA : Fit1 A) {p k : Nat} (hp : p < A.np) (hk : k < A.each (A.own p)) (gn : Nat) (hgn : gn < 4294967296) :
    Calls Try.prog 62 #[.pointer (some ⟨sb, 0, none⟩), .int .i64 (A.place p k), .int .u32 gn] w fun y w' => y = .returned (.tuple #[]) ∧ IsS w' sb F B b c d e f g A (headZ zs (A.place p k) gn) ∧ Kp F w w' := by
  have hlo := hA.lo _ (hA.on p hp)
  have t1 := there_of h hA hp hk (o := 0) (n := 56) (by omega)
  rw [Nat.add_zero] at t1
  have hl := (place_le hA hp hk).1
  have hfl := (fill_yes h.ar (A.place p k) 56 0 (by omega) t1).mono (R' := fun y w' => y = .returned (.int .i64 0) ∧ IsS w' sb F B b c d e f g A (lay zs (A.place p k) (List.replicate 56 0)) ∧ Kp F w w') (by
    rintro y w' ⟨rfl, hf, hA'⟩
    obtain ⟨i1, i2⟩ := h.bytes hf hA'
    exact ⟨rfl, i1, i2⟩)
  have c7 := h.sc 7
  simp [setC] at c7
  have hpt := fun (w1 : World) (h1 : IsS w1 sb F B b c d e f g A (lay zs (A.place p k) (List.replicate 56 0))) => (put_84 h1.ar ((A.place p k + 12 : Nat) : Int) gn (by omega) (there_of h1 hA hp hk (o := 12) (n := 4) (by omega))).mono (R' := fun y w' => y = .returned (.int .i64 0) ∧ IsS w' sb F B b c d e f g A (headZ zs (A.place p k) gn) ∧ Kp F w1 w') (by
    rintro y w' ⟨rfl, hf, hg⟩
    have hA' := h1.ar.turned hf hg (length_putL _ _ _ _) (putL_mem _ _ _ _ h1.ar.hz)
    obtain ⟨i1, i2⟩ := h1.bytes hf hA'
    exact ⟨rfl, i1, i2⟩)
  have e12 : ((A.place p k + 12 : Nat) : Int) = (A.place p k : Int) + 12 := by omega
  rw [e12] at hpt
  clear t1 h
  generalize A.place p k = pl at *
  go_enter Try.func62, Try.ntmps62
  go_wp2_with (first | (go_at_call 82; go_must (refine hfl.mono ?_); rintro y w1 ⟨rfl, hS1, hK1⟩; have d7 := hS1.sc 7; simp [setC] at d7) | (go_at_call 118; go_must (refine (hpt _ hS1).mono ?_); rintro y w2 ⟨rfl, hS2, hK2⟩) | fail)
  go_end0
  exact ⟨rfl, hS2, hK1.trans hK2 (fun _ h => h) (fun _ h => .inl h)⟩
end

def Ab.pushes (A : Ab) (i : Nat) (xs : List Nat) : Ab := { A with row := upd A.row i (A.row i ++ xs) }
theorem pushes_nil (A : Ab) (i : Nat) : A.pushes i [] = A := by
  have : upd A.row i (A.row i ++ []) = A.row := by
    funext j
    by_cases e : j = i
    · subst e; simp [upd]
    · simp [upd, e]
  unfold Ab.pushes
  rw [this]
theorem pushes_push (A : Ab) (i x : Nat) (xs : List Nat) : (A.pushes i xs).push i x = A.pushes i (xs ++ [x]) := by
  have : upd (upd A.row i (A.row i ++ xs)) i (upd A.row i (A.row i ++ xs) i ++ [x]) = upd A.row i (A.row i ++ (xs ++ [x])) := by
    funext j
    by_cases e : j = i
    · subst e; simp [upd]
    · simp [upd, e]
  unfold Ab.push Ab.pushes
  simp only
  rw [this]
/-- The numbers of a page's chunks, from the highest on. -/
def Ab.nums (A : Ab) (i j : Nat) : List Nat := ((List.range (A.each i)).drop j).reverse.map fun k => (A.np * A.ps + k * A.sz i) / 8 + 1
theorem nums_step (A : Ab) (i j : Nat) (h : j < A.each i) : A.nums i (j + 1) ++ [(A.np * A.ps + j * A.sz i) / 8 + 1] = A.nums i j := by
  unfold Ab.nums
  rw [List.drop_eq_getElem_cons (i := j) (by simpa using h)]
  simp
theorem nums_end (A : Ab) (i : Nat) : A.nums i (A.each i) = [] := by simp [Ab.nums]
/-- A page more. -/
def Ab.owned (A : Ab) (i : Nat) : Ab := (A.page i).pushes i (A.nums i 0)

theorem Try.info131 : (Try.prog.info? 131).map (fun i => (i.zero, i.size, i.bytes)) = some (some (.agg #[.int .u32 0, .bool false]), 2, 8) := by kernel_rfl
theorem Try.info126 : (Try.prog.info? 126).map (fun i => (i.zero, i.size, i.bytes)) = some (some (.int .u32 0), 1, 4) := by kernel_rfl
theorem Try.info188 : (Try.prog.info? 188).map (fun i => (i.zero, i.size, i.bytes)) = some (some (.agg #[.int .i64 0, .slice none 0 0]), 2, 32) := by kernel_rfl

theorem made_chunks (N : Nat) : madeCells (Value.agg #[.int .u32 0, .bool false]).cells (N * 2) = (rng N (fun _ => [.int .u32 0, .bool false])).toArray := by
  apply Array.ext'
  apply List.ext_getElem?
  intro i
  have hl := rng_len (f := fun _ => [.int .u32 0, .bool false]) (s := 2) (fun _ => rfl) N
  by_cases h : i < N * 2
  · have e := rng_get (f := fun _ => [.int .u32 0, .bool false]) (s := 2) (fun _ => rfl) (n := N) (i := i / 2) (j := i % 2) (by omega) (by omega)
    rw [show i / 2 * 2 + i % 2 = i by omega] at e
    simp only at e ⊢
    rw [e]
    simp only [madeCells, Value.cells, Array.toList_map, List.getElem?_map, Array.toList_range, List.getElem?_range h, Option.map_some]
    rcases Nat.mod_two_eq_zero_or_one i with h2 | h2 <;> simp [h2]
  · rw [List.getElem?_eq_none (by simp [madeCells, Value.cells]; omega), List.getElem?_eq_none (by simp; omega)]

theorem run_make_chunks (N : Nat) (h : N ≤ 1000000) (w : World) : (Instr.makeSlice 186 (.int .i64 N) (.int .i64 N)).run Try.prog w = .ok (.slice (some ⟨w.heap.size, 0, none⟩) N N) (w.alloc (.cells (rng N (fun _ => [.int .u32 0, .bool false])).toArray 131)) := by
  obtain ⟨i0, hi, hz0, hz1, hz2⟩ := info_parts Try.info131
  have := run_make (P := Try.prog) w 186 131 i0 (.agg #[.int .u32 0, .bool false]) Try.underlying186 hi hz0 .i64 .i64 N N (by omega) (by omega) (by rw [hz2]; omega) (by omega)
  rw [this, hz1]
  simp only [Int.toNat_natCast]
  rw [made_chunks]


end Go.Proofs.Ytoaaaeefcipdcaa
