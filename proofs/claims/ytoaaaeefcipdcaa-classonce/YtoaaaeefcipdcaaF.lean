import Derived.Test.YtoaaaeefcipdcaaC
/-
  bits.OnesCount, mayBePage, New.
-/
namespace Go.Proofs.Ytoaaaeefcipdcaa
open Go.RowKit
set_option linter.unusedVariables false

def ones1 (x : Int) : Int := IntKind.u64.wrap (bits BinOp.and IntKind.u64 (x / 2) 6148914691236517205 + bits BinOp.and IntKind.u64 x 6148914691236517205)
def ones2 (y : Int) : Int := IntKind.u64.wrap (bits BinOp.and IntKind.u64 (y / 4) 3689348814741910323 + bits BinOp.and IntKind.u64 y 3689348814741910323)
def ones3 (z : Int) : Int := bits BinOp.and IntKind.u64 (IntKind.u64.wrap (z / 16 + z)) 1085102592571150095
def ones4 (a : Int) : Int := IntKind.u64.wrap (a + a / 256)
def ones5 (a : Int) : Int := IntKind.u64.wrap (a + a / 65536)
def ones6 (a : Int) : Int := IntKind.u64.wrap (a + a / 4294967296)
/-- What bits.OnesCount64 reckons, step by step. -/
def onesF (x : Int) : Int := bits BinOp.and IntKind.i64 (wrap64 (ones6 (ones5 (ones4 (ones3 (ones2 (ones1 x))))))) 127

set_option maxRecDepth 100000 in
set_option maxHeartbeats 1000000 in
theorem ones64_any (x : Int) (h0 : 0 ≤ x) (h1 : x < 2097152) (w : World) : Calls Try.prog 142 #[.int .u64 x] w fun e w' => e = .returned (.int .i64 (onesF x)) ∧ w = w' := by
  go_enter Try.func142, Try.ntmps142
  go_wp2
  go_ret
  exact ⟨rfl, rfl⟩

theorem ones_any (x : Int) (h0 : 0 ≤ x) (h1 : x < 2097152) (w : World) : Calls Try.prog 132 #[.int .u64 x] w fun e w' => e = .returned (.int .i64 (onesF x)) ∧ w = w' := by
  go_enter Try.func132, Try.ntmps132
  go_wp2_with (go_at_call 142; refine (ones64_any x h0 h1 _).mono ?_; rintro e w' ⟨rfl, rfl⟩)
  go_ret
  exact ⟨rfl, rfl⟩

/-- May a page have so many bytes? -/
def pageB (n : Int) : Bool := decide (4096 ≤ n) && decide (n ≤ 1048576) && (onesF n == 1)

theorem mayBe_any (n : Int) (w : World) : Calls Try.prog 98 #[.int .i64 n] w fun e w' => e = .returned (.bool (pageB n)) ∧ w = w' := by
  by_cases h1 : 4096 ≤ n
  · by_cases h2 : n ≤ 1048576
    · obtain ⟨v, hv⟩ : ∃ v, v = onesF n := ⟨_, rfl⟩
      have hp : Hid (pageB n = (v == 1)) := by
        subst hv
        show _ = _
        simp [pageB, h1, h2]
      have HV : Hid (v = onesF n) := hv
      clear hv
      go_enter Try.func98, Try.ntmps98
      go_wp2_with (go_at_call 132; refine (ones_any n (by omega) (by omega) _).mono ?_; rintro e w' ⟨rfl, rfl⟩; rw [← HV.out])
      go_ret
      rw [hp.out]
      exact ⟨rfl, rfl⟩
    · have hp : Hid (pageB n = false) := by show _ = _; simp [pageB, h2]
      go_enter Try.func98, Try.ntmps98
      go_wp2
      go_ret
      rw [hp.out]
      exact ⟨rfl, rfl⟩
  · have hp : Hid (pageB n = false) := by show _ = _; simp [pageB, h1]
    go_enter Try.func98, Try.ntmps98
    go_wp2
    go_ret
    rw [hp.out]
    exact ⟨rfl, rfl⟩

theorem new_no (n m : Int) (w : World) (h : pageB n = false ∨ m < 1 ∨ 1024 < m) : Calls Try.prog 44 #[.int .i64 n, .int .i64 m] w fun e w' => e = .returned (.tuple #[.pointer none, .int .i64 1]) ∧ w = w' := by
  obtain ⟨v, hv⟩ : ∃ v, v = pageB n := ⟨_, rfl⟩
  rw [← hv] at h
  have HV : Hid (v = pageB n) := hv
  clear hv
  cases v
  · clear h
    go_enter Try.func44, Try.ntmps44
    go_wp2_with (go_at_call 98; refine (mayBe_any n _).mono ?_; rintro e w' ⟨rfl, rfl⟩; rw [← HV.out])
    go_ret2
    exact ⟨rfl, rfl⟩
  · by_cases h1 : m < 1
    · clear h
      go_enter Try.func44, Try.ntmps44
      go_wp2_with (go_at_call 98; refine (mayBe_any n _).mono ?_; rintro e w' ⟨rfl, rfl⟩; rw [← HV.out])
      go_ret2
      exact ⟨rfl, rfl⟩
    · have h2 : 1024 < m := by simpa [h1] using h
      clear h
      go_enter Try.func44, Try.ntmps44
      go_wp2_with (go_at_call 98; refine (mayBe_any n _).mono ?_; rintro e w' ⟨rfl, rfl⟩; rw [← HV.out])
      go_ret2
      exact ⟨rfl, rfl⟩

theorem Try.info5 : (Try.prog.info? 5).map (fun i => (i.zero, i.size, i.bytes)) = some (some (.int .u8 0), 1, 1) := by kernel_rfl

theorem made_zeros (N : Nat) : madeCells (Value.int .u8 0).cells N = vals (List.replicate N 0) := by
  apply Array.ext'
  apply List.ext_getElem?
  intro i
  by_cases h : i < N <;> simp [madeCells, Value.cells, vals, h, Nat.mod_one]

theorem run_make_bytes (N : Nat) (h : N ≤ 281474976710656) (w : World) : (Instr.makeSlice 42 (.int .i64 N) (.int .i64 N)).run Try.prog w = .ok (.slice (some ⟨w.heap.size, 0, none⟩) N N) (w.alloc (.cells (vals (List.replicate N 0)) 5)) := by
  obtain ⟨i0, hi, hz0, hz1, hz2⟩ := info_parts Try.info5
  have := run_make (P := Try.prog) w 42 5 i0 (.int .u8 0) Try.underlying42 hi hz0 .i64 .i64 N N (by omega) (by omega) (by rw [hz2]; omega) (by omega)
  rw [this, hz1]
  simp [made_zeros]

theorem new_yes (ps m : Nat) (w : World) (hk : ∃ k, ps = 2 ^ k ∧ 12 ≤ k ∧ k ≤ 20) (hp : pageB (ps : Int) = true) (hm : 1 ≤ m ∧ m ≤ 1024) :
    Calls Try.prog 44 #[.int .i64 ps, .int .i64 m] w fun e w' => e = .returned (.tuple #[.pointer (some ⟨w.heap.size + 1, 0, none⟩), .int .i64 0]) ∧
      w.grownBy w' none ∧ IsA w' (w.heap.size + 1) w.heap.size ps m (List.replicate (ps * m) 0) := by
  have HK : Hid (∃ k, ps = 2 ^ k ∧ 12 ≤ k ∧ k ≤ 20) := hk
  have hb : ps ≤ 1048576 := by
    obtain ⟨k, rfl, _, h2⟩ := hk
    exact Nat.pow_le_pow_right (n := 2) (j := 20) (by omega) h2
  have hN : ps * m ≤ 1073741824 := Nat.le_trans (Nat.mul_le_mul hb hm.2) (by decide)
  obtain ⟨N, hN'⟩ : ∃ N, N = ps * m := ⟨_, rfl⟩
  have HN : Hid (N = ps * m) := hN'
  have hNi : (ps : Int) * m = N := by rw [hN']; simp
  rw [← hN'] at hN ⊢
  have hmk := run_make_bytes N (by omega)
  clear hN' hk
  go_enter Try.func44, Try.ntmps44
  go_wp2_with (go_at_call 98; refine (mayBe_any _ _).mono ?_; rintro e w' ⟨rfl, rfl⟩; rw [hp])
  go_ret2
  refine ⟨rfl, gb_alloc (gb_alloc (gb_refl _ _) _) _, ?_⟩
  have hh : ∀ (o1 o2 : Obj), ((w.alloc o1).alloc o2).heap[w.heap.size + 1]? = some o2 := fun o1 o2 => heap_alloc2_new w o1 o2
  refine ⟨by rw [hh]; simp, by rw [heap_alloc2_old], by omega, HK.out, by rw [← HN.out]; simp, hm, ?_⟩
  intro z hz
  have := List.eq_of_mem_replicate hz
  omega

theorem page4096 : pageB ((4096 : Nat) : Int) = true := by kernel_rfl
theorem page8192 : pageB ((8192 : Nat) : Int) = true := by kernel_rfl
theorem page16384 : pageB ((16384 : Nat) : Int) = true := by kernel_rfl

end Go.Proofs.Ytoaaaeefcipdcaa
