/-
  Write and Move: bytes laid by copy.
-/
import Derived.Test.YtoaaaeefcipdcaaG
import Derived.Laws.CopyOwn
namespace Go.Proofs.Ytoaaaeefcipdcaa
open Go.RowKit
set_option linter.unusedVariables false

/-- Bytes laid over others from a place on. -/
def lay (zs : List Int) (x : Nat) (ys : List Int) : List Int := zs.take x ++ ys ++ zs.drop (x + ys.length)
theorem length_lay {zs ys : List Int} {x : Nat} (h : x + ys.length ≤ zs.length) : (lay zs x ys).length = zs.length := by simp [lay]; omega
theorem isBytes_lay {zs ys : List Int} {x : Nat} (hz : isBytes zs) (hy : isBytes ys) : isBytes (lay zs x ys) := by
  intro z h
  simp only [lay, List.mem_append] at h
  rcases h with (h | h) | h
  · exact hz z (List.mem_of_mem_take h)
  · exact hy z h
  · exact hz z (List.mem_of_mem_drop h)
theorem vals_lay (zs : List Int) (x : Nat) (ys : List Int) : vals (lay zs x ys) = ((vals zs).toList.take x ++ (ys.map (Value.int .u8)) ++ (vals zs).toList.drop (x + (ys.map (Value.int .u8)).length)).toArray := by
  simp [vals, lay, List.map_take, List.map_drop]

theorem run_copy {w : World} {g : Nat} {zs : List Int} (hg : w.heap[g]? = some (.cells (vals zs) 5 (0, 0))) {x o n cap c : Nat} {a : Option Addr} {ys : List Int} (hy : Has w a n ys) (ho : 0 < n → o = x) (hx : x + n ≤ zs.length) (ty : TypeId) :
    (Builtin.copy_ #[42, 42] ty #[.slice (some ⟨g, o, none⟩) n cap, .slice a n c]).run Try.prog w = .ok (goInt n) (w.setRow g (vals (lay zs x ys))) := by
  have hs : (Try.prog.info? 5).map (·.size) = some 1 := by kernel_rfl
  obtain ⟨hl, hc⟩ := hy
  rcases Nat.eq_zero_or_pos n with hn | hn
  · subst hn
    obtain rfl : ys = [] := List.eq_nil_of_length_eq_zero hl
    rw [run_copy_none (P := Try.prog) w 42 42 ty 5 _ a 0 cap 0 c Try.underlying42 hs rfl]
    have e : lay zs x [] = zs := by simp [lay]
    rw [e, setRow_self w g _ _ _ hg]
    rfl
  · obtain ⟨bb, oo, rfl, hcc⟩ := hc hn
    have ho' := ho hn
    subst ho'
    have hlen : (ys.map (Value.int .u8)).length = n := by simpa using hl
    rw [run_copy_row (P := Try.prog) w 42 42 ty 5 g o n cap ⟨bb, oo, none⟩ n c (vals zs) 5 (ys.map (Value.int .u8)) Try.underlying42 hs hg (by rw [hlen]; simp)
      (fun j v hv => by
        have hj : j < n := by
          have := (List.getElem?_eq_some_iff.1 hv).1
          omega
        have := hcc j hj
        rw [show (⟨bb, oo, none⟩ : Addr).add j = ⟨bb, oo + j, none⟩ by simp [Addr.add], this]
        rw [← hv]
        simp [List.getD, show j < ys.length by omega])
      (by rw [hlen]; simp [vals]; omega) (fun v hv => by obtain ⟨z, _, rfl⟩ := List.mem_map.1 hv; rfl)]
    rw [hlen, vals_lay, hlen]

theorem gb_setRow {a b : World} {g : Nat} (h : a.grownBy b (some g)) (cs : Array Value) : a.grownBy (b.setRow g cs) (some g) :=
  ⟨h.os, h.tape, h.output, by simpa using h.size, fun k hk hn => by
    rw [setRow_other b g k cs (by intro e; exact hn (by rw [e]))]; exact h.block k hk hn⟩

theorem write_yes {w : World} {b g ps pages : Nat} {zs : List Int} (hA : IsA w b g ps pages zs) (x : Int) (a : Option Addr) (n c : Nat) (ys : List Int) (hy : Has w a n ys) (hb : isBytes ys) (hn : (n : Int) ≤ 9223372036854775807) (ht : There ps zs.length x n) :
    Calls Try.prog 108 #[.pointer (some ⟨b, 0, none⟩), .int .i64 x, .slice a n c] w fun e w' => e = .returned (.int .i64 0) ∧ w.grownBy w' (some g) ∧ IsA w' b g ps pages (lay zs x.toNat ys) := by
  have hx : x.toNat + n ≤ zs.length := by obtain ⟨_, _, h3, _⟩ := ht; omega
  go_enter Try.func108, Try.ntmps108
  go_wp2_with (go_at_call 116; go_must (refine (hA.part_yes x n ht).mono ?_); rintro e w' ⟨⟨o, rfl, ho⟩, q, rfl⟩; have hcp := run_copy (w := w.drewN q) (c := c) (cap := zs.length - x.toNat) hA.hg (hy.drewN q) (o := o) (x := x.toNat) (by simpa using ho) hx 3)
  go_ret
  have hf : w.grownBy ((w.drewN q).setRow g (vals (lay zs x.toNat ys))) (some g) := gb_setRow (gb_drewN (gb_refl _ _) q) _
  have hl : (lay zs x.toNat ys).length = zs.length := length_lay (by rw [hy.1]; exact hx)
  exact ⟨rfl, hf, hA.turned hf (setRow_heap _ _ _ _ _ _ hA.hg) hl (isBytes_lay hA.hz hb)⟩

theorem write_no {w : World} {b g ps pages : Nat} {zs : List Int} (hA : IsA w b g ps pages zs) (x : Int) (a : Option Addr) (n c : Nat) (hx : x ≤ 9223372036854775807) (hn : (n : Int) ≤ 9223372036854775807) (ht : ¬ There ps zs.length x n) :
    Calls Try.prog 108 #[.pointer (some ⟨b, 0, none⟩), .int .i64 x, .slice a n c] w fun e w' => e = .returned (.int .i64 20) ∧ w.grownBy w' none := by
  go_enter Try.func108, Try.ntmps108
  go_wp2_with (go_at_call 116; go_must (refine (hA.part_no x n (by omega) ht).mono ?_); rintro e w' ⟨rfl, q, rfl⟩)
  go_ret
  exact ⟨rfl, gb_drewN (gb_refl _ _) _⟩

end Go.Proofs.Ytoaaaeefcipdcaa
