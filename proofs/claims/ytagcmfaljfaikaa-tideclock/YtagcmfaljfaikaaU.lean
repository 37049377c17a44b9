/-
  TideClock's walk.
-/
import Derived.Test.YtagcmfaljfaikaaT
namespace Go.Proofs.Ytagcmfaljfaikaa
open Go.RowKit
set_option linter.unusedVariables false

def opA (x0 x1 x2 x3 x4 : Int) : Array Value := #[.int .i64 x0, .int .i64 x1, .int .i64 x2, .int .i64 x3, .int .u64 x4]

/-- Where a round stands: the clocks and the Op's own block. -/
structure Rd (w wr : World) (tb a0 a1 b0 b1 : Nat) (c0 c1 d0 d1 : Ck) (ob : Nat) (x0 x1 x2 x3 x4 : Int) : Prop where
  ck : Cks w wr tb a0 a1 b0 b1 c0 c1 d0 d1
  op : Box wr 40 ob (opA x0 x1 x2 x3 x4)
section
variable {w wr w' : World} {tb a0 a1 b0 b1 : Nat} {c0 c1 d0 d1 : Ck} {ob : Nat} {x0 x1 x2 x3 x4 : Int}
theorem Rd.kept0 (h : Rd w wr tb a0 a1 b0 b1 c0 c1 d0 d1 ob x0 x1 x2 x3 x4) (hf : wr.grownBy w' none) : Rd w w' tb a0 a1 b0 b1 c0 c1 d0 d1 ob x0 x1 x2 x3 x4 := ⟨h.ck.kept0 hf, h.op.kept hf (by simp)⟩
theorem Rd.drew (h : Rd w wr tb a0 a1 b0 b1 c0 c1 d0 d1 ob x0 x1 x2 x3 x4) : Rd w wr.drew tb a0 a1 b0 b1 c0 c1 d0 d1 ob x0 x1 x2 x3 x4 := h.kept0 (gb_drew (gb_refl _ _))
theorem Rd.cells (h : Rd w wr tb a0 a1 b0 b1 c0 c1 d0 d1 ob x0 x1 x2 x3 x4) : wr.cell? ⟨ob, 0, none⟩ = some (.int .i64 x0) ∧ wr.cell? ⟨ob, 1, none⟩ = some (.int .i64 x1) ∧ wr.cell? ⟨ob, 2, none⟩ = some (.int .i64 x2) ∧ wr.cell? ⟨ob, 3, none⟩ = some (.int .i64 x3) ∧ wr.cell? ⟨ob, 4, none⟩ = some (.int .u64 x4) := ⟨h.op.cell 0, h.op.cell 1, h.op.cell 2, h.op.cell 3, h.op.cell 4⟩
theorem Rd.op_ne {t : TypeId} {a : Nat} {v : Array Value} (h : Rd w wr tb a0 a1 b0 b1 c0 c1 d0 d1 ob x0 x1 x2 x3 x4) (hb : Box wr t a v) (ht : (40 : Nat) ≠ t) (hf : wr.grownBy w' (some a)) : Box w' 40 ob (opA x0 x1 x2 x3 x4) := h.op.kept hf (box_ne h.op hb ht)
theorem Rd.tc (h : Rd w wr tb a0 a1 b0 b1 c0 c1 d0 d1 ob x0 x1 x2 x3 x4) : wr.cell? ⟨tb, 0, none⟩ = some (.pointer (some ⟨a0, 0, none⟩)) ∧ wr.cell? ⟨tb, 1, none⟩ = some (.pointer (some ⟨a1, 0, none⟩)) ∧ wr.cell? ⟨tb, 2, none⟩ = some (.pointer (some ⟨b0, 0, none⟩)) ∧ wr.cell? ⟨tb, 3, none⟩ = some (.pointer (some ⟨b1, 0, none⟩)) := h.ck.tc
end

set_option maxRecDepth 100000 in
set_option maxHeartbeats 16000000 in
theorem clock_any (a : Option Addr) (n c : Nat) (w : World) (hn : n ≤ maxLen) (hin : OpIn w a n) : Calls Try.prog 4 #[.slice a n c] w fun y w' => y = .returned (.bool true) ∧ w.grownBy w' none := by
  have hn' : (n : Int) ≤ 9223372036854775807 := by unfold maxLen at hn; omega
  have hal := World.grownBy_alloc w (.cells (tkA none none none none) 37) none
  have hB : Box (w.alloc (.cells (tkA none none none none) 37)) 37 w.heap.size (tkA none none none none) := Box.new _ _ _
  unfold tkA at hal hB
  go_enter Try.func4, Try.ntmps4
  go_wp2_with fail
  generalize w.alloc (.cells #[.pointer none, .pointer none, .pointer none, .pointer none] 37) = W at *
  obtain ⟨tb, htb⟩ : ∃ tb, tb = w.heap.size := ⟨_, rfl⟩
  rw [← htb] at hB ⊢
  have hlt : w.heap.size ≤ tb := by omega
  clear htb
  refine (begin_yes0 hB 1 0 0 (by unfold badNew; omega)).mono ?_
  rintro y w1 ⟨rfl, hg1, hb1, hx1, hy1⟩
  have k1 := begin_yes1 hb1 1099511627756 0 0 (by unfold badNew; omega)
  go_wp2_with fail
  refine k1.mono ?_
  rintro y w2 ⟨rfl, hg2, hb2, hx2, hy2⟩
  have hW : w.heap.size ≤ W.heap.size := hal.size
  have hw1 : w.heap.size ≤ w1.heap.size := Nat.le_trans hal.size hg1.size
  have hck : Cks w w2 tb W.heap.size w1.heap.size (W.heap.size + 1) (w1.heap.size + 1) ⟨1, 0, 0⟩ ⟨1099511627756, 0, 0⟩ ⟨1, 0, 0⟩ ⟨1099511627756, 0, 0⟩ :=
    ⟨hb2, hx1.kept hg2 (box_ne hx1 hb1 (by decide)), hx2, hy1.kept hg2 (box_ne hy1 hb1 (by decide)), hy2, by have := hx1.lt; omega, by have := hy1.lt; omega, gb_mine (gb_mine hal hg1 hlt) hg2 hlt, hlt, hW, hw1, by omega, by omega⟩
  obtain ⟨t0, t1, t2, t3⟩ := hck.tc
  have o0 : CkOk ⟨1, 0, 0⟩ := CkOk.new (by unfold badNew; omega) (by unfold isI; omega)
  have o1 : CkOk ⟨1099511627756, 0, 0⟩ := CkOk.new (by unfold badNew; omega) (by unfold isI; omega)
  clear k1 hB hal hb1 hx1 hy1 hb2 hx2 hy2 hg1 hg2
  go_wp2
  clear t0 t1 t2 t3
  go_loopw [4] (fun v wr => ∃ (i : Nat) (a0 a1 b0 b1 : Nat) (c0 c1 : Ck), i ≤ n ∧ i ≤ 600 ∧ v = .int .i64 i ∧ Cks w wr tb a0 a1 b0 b1 c0 c1 c0 c1 ∧ CkOk c0 ∧ CkOk c1) (fun v _ => n - (intOf v).toNat)
  case atStart => exact ⟨0, _, _, _, _, _, _, by omega, by omega, rfl, hck, o0, o1⟩
  case round =>
    clear hck o0 o1 hW hw1
    obtain ⟨i, a0, a1, b0, b1, c0, c1, hi, hi6, rfl, hc, ok0, ok1⟩ := hrel
    by_cases hlt2 : i < n ∧ i < 600
    · obtain ⟨hin1, hin2⟩ := hlt2
      obtain ⟨bb, oo, rfl, x0, x1, x2, x3, x4, y0, y1, y2, y3, y4, z0, z1, b2, b3, z4⟩ := hin i hin1
      replace y0 := gb_cellN hc.g y0
      replace y1 := gb_cellN hc.g y1
      replace y2 := gb_cellN hc.g y2
      replace y3 := gb_cellN hc.g y3
      replace y4 := gb_cellN hc.g y4
      have hd1 : decide ((i : Int) < n) = true := by simp; omega
      have hd2 : decide ((i : Int) < 600) = true := by simp; omega
      have hd3 : decide (i < n) = true := by simp; omega
      have hd4 : decide (i < 600) = true := by simp; omega
      have hib : (i : Int) < n := by omega
      have hand := i64_and1 x1
      have hO : Box (wr.alloc (.cells (opA x0 x1 x2 x3 x4) 40)) 40 wr.heap.size (opA x0 x1 x2 x3 x4) := Box.new _ _ _
      have hr : Rd w _ tb a0 a1 b0 b1 c0 c1 c0 c1 wr.heap.size x0 x1 x2 x3 x4 := ⟨hc.kept0 (World.grownBy_alloc wr (.cells (opA x0 x1 x2 x3 x4) 40) none), hO⟩
      clear hO hin hc z0 z1 z4
      unfold opA at hr
      rcases (show x1 % 2 = 0 ∨ x1 % 2 = 1 by omega) with hj | hj
      · rw [hj] at hand
        clear hj
        by_cases h1 : x0 = 1
        · subst h1
          go_wp2_with fail
          obtain ⟨ob, hob⟩ : ∃ ob, ob = wr.heap.size := ⟨_, rfl⟩
          rw [← hob] at hr ⊢
          clear hob y0 y1 y2 y3 y4
          generalize wr.alloc (.cells #[.int .i64 1, .int .i64 x1, .int .i64 x2, .int .i64 x3, .int .u64 x4] 40) = V at *
          have k1 := fun W (hr : Rd w W tb a0 a1 b0 b1 c0 c1 c0 c1 ob 1 x1 x2 x3 x4) => mv_15 hr.ck.x0 ok0 x2 x4
          have k2 := fun W (hr : Rd w W tb a0 a1 b0 b1 (mvK c0 x2 x4) (c1) (c0) (c1) ob 1 x1 x2 x3 x4) => mv_17 hr.ck.y0 ok0 x2 x4
          have hok : CkOk (mvK c0 x2 x4) := mvK_ok ok0 x2 x4
          generalize mvE c0 x2 = ev at *
          generalize mvK c0 x2 x4 = cn at *
          obtain ⟨t0, t1, t2, t3⟩ := hr.tc
          obtain ⟨e0, e1, e2, e3, e4⟩ := hr.cells
          go_region_held3 (fun w' => w'.cell? ⟨tb, 0, none⟩ = some (.pointer (some ⟨a0, 0, none⟩)) ∧ w'.cell? ⟨ob, 2, none⟩ = some (.int .i64 x2) ∧ w'.cell? ⟨ob, 4, none⟩ = some (.int .u64 x4)) ((first | exact ⟨hr3.tc.1, hr3.cells.2.2.1, hr3.cells.2.2.2.2⟩ | go_keep)) ((first | (go_at_call 15; with_reducible refine (k1 _ hr.drew).mono ?_; rintro y w3 ⟨rfl, hg3, hb3⟩; have hr3 : Rd w w3 tb a0 a1 b0 b1 (cn) (c1) (c0) (c1) ob 1 x1 x2 x3 x4 := ⟨hr.drew.ck.setx0 hg3 hb3, hr.drew.op_ne hr.drew.ck.x0 (by decide) hg3⟩)))
          obtain ⟨q0, q1, q2, q3⟩ := hr3.tc
          obtain ⟨r0, r1, r2, r3, r4⟩ := hr3.cells
          clear hr k1 t0 t1 t2 t3 e0 e1 e2 e3 e4
          go_wp2
          go_region_held3 (fun w' => w'.cell? ⟨tb, 2, none⟩ = some (.pointer (some ⟨b0, 0, none⟩)) ∧ w'.cell? ⟨ob, 2, none⟩ = some (.int .i64 x2) ∧ w'.cell? ⟨ob, 4, none⟩ = some (.int .u64 x4)) ((first | exact ⟨hr4.tc.2.2.1, hr4.cells.2.2.1, hr4.cells.2.2.2.2⟩ | go_keep)) ((first | (go_at_call 17; with_reducible refine (k2 _ hr3.drew).mono ?_; rintro y w4 ⟨rfl, hg4, hb4⟩; have hr4 : Rd w w4 tb a0 a1 b0 b1 (cn) (c1) (cn) (c1) ob 1 x1 x2 x3 x4 := ⟨hr3.drew.ck.sety0 hg4 hb4, hr3.drew.op_ne hr3.drew.ck.y0 (by decide) hg4⟩) | (go_at_call 16; with_reducible refine (num_16 _ _).mono ?_; rintro y w6 ⟨rfl, rfl⟩)))
          have hs := same_20 hr4.ck
          clear k2 q0 q1 q2 q3 r0 r1 r2 r3 r4
          go_wp2_with (first | (go_at_call 20; go_must (refine hs.mono ?_); rintro y w5 ⟨rfl, hg5⟩) | fail)
          exact ⟨⟨i + 1, _, _, _, _, _, _, by omega, by omega, by go_num, hr4.ck.kept0 hg5, hok, ok1⟩, by simp [intOf]; omega⟩
        · by_cases h2 : x0 = 2
          · subst h2
            go_wp2_with fail
            obtain ⟨ob, hob⟩ : ∃ ob, ob = wr.heap.size := ⟨_, rfl⟩
            rw [← hob] at hr ⊢
            clear hob y0 y1 y2 y3 y4
            generalize wr.alloc (.cells #[.int .i64 2, .int .i64 x1, .int .i64 x2, .int .i64 x3, .int .u64 x4] 40) = V at *
            have k1 := fun W (hr : Rd w W tb a0 a1 b0 b1 c0 c1 c0 c1 ob 2 x1 x2 x3 x4) => flush_18 hr.ck.x0 ok0 x2 x4 b2
            have k2 := fun W (hr : Rd w W tb a0 a1 b0 b1 (c0.flush x2 x4) (c1) (c0) (c1) ob 2 x1 x2 x3 x4) => flush_19 hr.ck.y0 ok0 x2 x4 b2
            have hok : CkOk (c0.flush x2 x4) := ok0.flush x2 x4 b2
            generalize c0.flush x2 x4 = cn at *
            obtain ⟨t0, t1, t2, t3⟩ := hr.tc
            obtain ⟨e0, e1, e2, e3, e4⟩ := hr.cells
            go_region_held3 (fun w' => w'.cell? ⟨tb, 0, none⟩ = some (.pointer (some ⟨a0, 0, none⟩)) ∧ w'.cell? ⟨ob, 2, none⟩ = some (.int .i64 x2) ∧ w'.cell? ⟨ob, 4, none⟩ = some (.int .u64 x4)) ((first | exact ⟨hr3.tc.1, hr3.cells.2.2.1, hr3.cells.2.2.2.2⟩ | go_keep)) ((first | (go_at_call 18; with_reducible refine (k1 _ hr.drew).mono ?_; rintro y w3 ⟨rfl, hg3, hb3⟩; have hr3 : Rd w w3 tb a0 a1 b0 b1 (cn) (c1) (c0) (c1) ob 2 x1 x2 x3 x4 := ⟨hr.drew.ck.setx0 hg3 hb3, hr.drew.op_ne hr.drew.ck.x0 (by decide) hg3⟩)))
            obtain ⟨q0, q1, q2, q3⟩ := hr3.tc
            obtain ⟨r0, r1, r2, r3, r4⟩ := hr3.cells
            clear hr k1 t0 t1 t2 t3 e0 e1 e2 e3 e4
            go_wp2
            go_region_held3 (fun w' => w'.cell? ⟨tb, 2, none⟩ = some (.pointer (some ⟨b0, 0, none⟩)) ∧ w'.cell? ⟨ob, 2, none⟩ = some (.int .i64 x2) ∧ w'.cell? ⟨ob, 4, none⟩ = some (.int .u64 x4)) ((first | exact ⟨hr4.tc.2.2.1, hr4.cells.2.2.1, hr4.cells.2.2.2.2⟩ | go_keep)) ((first | (go_at_call 19; with_reducible refine (k2 _ hr3.drew).mono ?_; rintro y w4 ⟨rfl, hg4, hb4⟩; have hr4 : Rd w w4 tb a0 a1 b0 b1 (cn) (c1) (cn) (c1) ob 2 x1 x2 x3 x4 := ⟨hr3.drew.ck.sety0 hg4 hb4, hr3.drew.op_ne hr3.drew.ck.y0 (by decide) hg4⟩)))
            have hs := same_20 hr4.ck
            clear k2 q0 q1 q2 q3 r0 r1 r2 r3 r4
            go_wp2_with (first | (go_at_call 20; go_must (refine hs.mono ?_); rintro y w5 ⟨rfl, hg5⟩) | fail)
            exact ⟨⟨i + 1, _, _, _, _, _, _, by omega, by omega, by go_num, hr4.ck.kept0 hg5, hok, ok1⟩, by simp [intOf]; omega⟩
          · by_cases h3 : x0 = 3
            · subst h3
              go_wp2_with fail
              obtain ⟨ob, hob⟩ : ∃ ob, ob = wr.heap.size := ⟨_, rfl⟩
              rw [← hob] at hr ⊢
              clear hob y0 y1 y2 y3 y4
              generalize wr.alloc (.cells #[.int .i64 3, .int .i64 x1, .int .i64 x2, .int .i64 x3, .int .u64 x4] 40) = V at *
              obtain ⟨e0, e1, e2, e3, e4⟩ := hr.cells
              by_cases hbad : badNew x2 x3
              · have k1 := begin_no hr.ck.box 0 x2 x4 x3 hbad
                have hs := same_20 hr.ck
                refine k1.mono ?_
                rintro y w3 ⟨rfl, rfl⟩
                go_wp2_with (first | (go_at_call 20; go_must (refine hs.mono ?_); rintro y w5 ⟨rfl, hg5⟩) | fail)
                exact ⟨⟨i + 1, _, _, _, _, _, _, by omega, by omega, by go_num, hr.ck.kept0 hg5, ok0, ok1⟩, by simp [intOf]; omega⟩
              · have k1 := begin_yes0 hr.ck.box x2 x4 x3 hbad
                refine k1.mono ?_
                rintro y w3 ⟨rfl, hg3, hb3, hx3, hy3⟩
                have hr3 := hr.ck.new0 hg3 hb3 hx3 hy3
                have hs := same_20 hr3
                clear k1
                go_wp2_with (first | (go_at_call 20; go_must (refine hs.mono ?_); rintro y w5 ⟨rfl, hg5⟩) | fail)
                exact ⟨⟨i + 1, _, _, _, _, _, _, by omega, by omega, by go_num, hr3.kept0 hg5, CkOk.new hbad b3, ok1⟩, by simp [intOf]; omega⟩
            · go_wp2_with fail
              obtain ⟨ob, hob⟩ : ∃ ob, ob = wr.heap.size := ⟨_, rfl⟩
              rw [← hob] at hr ⊢
              clear hob y0 y1 y2 y3 y4
              generalize wr.alloc (.cells #[.int .i64 x0, .int .i64 x1, .int .i64 x2, .int .i64 x3, .int .u64 x4] 40) = V at *
              obtain ⟨e0, e1, e2, e3, e4⟩ := hr.cells
              refine (same_20 hr.ck).mono ?_
              rintro y w5 ⟨rfl, hg5⟩
              go_wp2
              exact ⟨⟨i + 1, _, _, _, _, _, _, by omega, by omega, by go_num, hr.ck.kept0 hg5, ok0, ok1⟩, by simp [intOf]; omega⟩
      · rw [hj] at hand
        clear hj
        by_cases h1 : x0 = 1
        · subst h1
          go_wp2_with fail
          obtain ⟨ob, hob⟩ : ∃ ob, ob = wr.heap.size := ⟨_, rfl⟩
          rw [← hob] at hr ⊢
          clear hob y0 y1 y2 y3 y4
          generalize wr.alloc (.cells #[.int .i64 1, .int .i64 x1, .int .i64 x2, .int .i64 x3, .int .u64 x4] 40) = V at *
          have k1 := fun W (hr : Rd w W tb a0 a1 b0 b1 c0 c1 c0 c1 ob 1 x1 x2 x3 x4) => mv_15 hr.ck.x1 ok1 x2 x4
          have k2 := fun W (hr : Rd w W tb a0 a1 b0 b1 (c0) (mvK c1 x2 x4) (c0) (c1) ob 1 x1 x2 x3 x4) => mv_17 hr.ck.y1 ok1 x2 x4
          have hok : CkOk (mvK c1 x2 x4) := mvK_ok ok1 x2 x4
          generalize mvE c1 x2 = ev at *
          generalize mvK c1 x2 x4 = cn at *
          obtain ⟨t0, t1, t2, t3⟩ := hr.tc
          obtain ⟨e0, e1, e2, e3, e4⟩ := hr.cells
          go_region_held3 (fun w' => w'.cell? ⟨tb, 1, none⟩ = some (.pointer (some ⟨a1, 0, none⟩)) ∧ w'.cell? ⟨ob, 2, none⟩ = some (.int .i64 x2) ∧ w'.cell? ⟨ob, 4, none⟩ = some (.int .u64 x4)) ((first | exact ⟨hr3.tc.2.1, hr3.cells.2.2.1, hr3.cells.2.2.2.2⟩ | go_keep)) ((first | (go_at_call 15; with_reducible refine (k1 _ hr.drew).mono ?_; rintro y w3 ⟨rfl, hg3, hb3⟩; have hr3 : Rd w w3 tb a0 a1 b0 b1 (c0) (cn) (c0) (c1) ob 1 x1 x2 x3 x4 := ⟨hr.drew.ck.setx1 hg3 hb3, hr.drew.op_ne hr.drew.ck.x1 (by decide) hg3⟩)))
          obtain ⟨q0, q1, q2, q3⟩ := hr3.tc
          obtain ⟨r0, r1, r2, r3, r4⟩ := hr3.cells
          clear hr k1 t0 t1 t2 t3 e0 e1 e2 e3 e4
          go_wp2
          go_region_held3 (fun w' => w'.cell? ⟨tb, 3, none⟩ = some (.pointer (some ⟨b1, 0, none⟩)) ∧ w'.cell? ⟨ob, 2, none⟩ = some (.int .i64 x2) ∧ w'.cell? ⟨ob, 4, none⟩ = some (.int .u64 x4)) ((first | exact ⟨hr4.tc.2.2.2, hr4.cells.2.2.1, hr4.cells.2.2.2.2⟩ | go_keep)) ((first | (go_at_call 17; with_reducible refine (k2 _ hr3.drew).mono ?_; rintro y w4 ⟨rfl, hg4, hb4⟩; have hr4 : Rd w w4 tb a0 a1 b0 b1 (c0) (cn) (c0) (cn) ob 1 x1 x2 x3 x4 := ⟨hr3.drew.ck.sety1 hg4 hb4, hr3.drew.op_ne hr3.drew.ck.y1 (by decide) hg4⟩) | (go_at_call 16; with_reducible refine (num_16 _ _).mono ?_; rintro y w6 ⟨rfl, rfl⟩)))
          have hs := same_20 hr4.ck
          clear k2 q0 q1 q2 q3 r0 r1 r2 r3 r4
          go_wp2_with (first | (go_at_call 20; go_must (refine hs.mono ?_); rintro y w5 ⟨rfl, hg5⟩) | fail)
          exact ⟨⟨i + 1, _, _, _, _, _, _, by omega, by omega, by go_num, hr4.ck.kept0 hg5, ok0, hok⟩, by simp [intOf]; omega⟩
        · by_cases h2 : x0 = 2
          · subst h2
            go_wp2_with fail
            obtain ⟨ob, hob⟩ : ∃ ob, ob = wr.heap.size := ⟨_, rfl⟩
            rw [← hob] at hr ⊢
            clear hob y0 y1 y2 y3 y4
            generalize wr.alloc (.cells #[.int .i64 2, .int .i64 x1, .int .i64 x2, .int .i64 x3, .int .u64 x4] 40) = V at *
            have k1 := fun W (hr : Rd w W tb a0 a1 b0 b1 c0 c1 c0 c1 ob 2 x1 x2 x3 x4) => flush_18 hr.ck.x1 ok1 x2 x4 b2
            have k2 := fun W (hr : Rd w W tb a0 a1 b0 b1 (c0) (c1.flush x2 x4) (c0) (c1) ob 2 x1 x2 x3 x4) => flush_19 hr.ck.y1 ok1 x2 x4 b2
            have hok : CkOk (c1.flush x2 x4) := ok1.flush x2 x4 b2
            generalize c1.flush x2 x4 = cn at *
            obtain ⟨t0, t1, t2, t3⟩ := hr.tc
            obtain ⟨e0, e1, e2, e3, e4⟩ := hr.cells
            go_region_held3 (fun w' => w'.cell? ⟨tb, 1, none⟩ = some (.pointer (some ⟨a1, 0, none⟩)) ∧ w'.cell? ⟨ob, 2, none⟩ = some (.int .i64 x2) ∧ w'.cell? ⟨ob, 4, none⟩ = some (.int .u64 x4)) ((first | exact ⟨hr3.tc.2.1, hr3.cells.2.2.1, hr3.cells.2.2.2.2⟩ | go_keep)) ((first | (go_at_call 18; with_reducible refine (k1 _ hr.drew).mono ?_; rintro y w3 ⟨rfl, hg3, hb3⟩; have hr3 : Rd w w3 tb a0 a1 b0 b1 (c0) (cn) (c0) (c1) ob 2 x1 x2 x3 x4 := ⟨hr.drew.ck.setx1 hg3 hb3, hr.drew.op_ne hr.drew.ck.x1 (by decide) hg3⟩)))
            obtain ⟨q0, q1, q2, q3⟩ := hr3.tc
            obtain ⟨r0, r1, r2, r3, r4⟩ := hr3.cells
            clear hr k1 t0 t1 t2 t3 e0 e1 e2 e3 e4
            go_wp2
            go_region_held3 (fun w' => w'.cell? ⟨tb, 3, none⟩ = some (.pointer (some ⟨b1, 0, none⟩)) ∧ w'.cell? ⟨ob, 2, none⟩ = some (.int .i64 x2) ∧ w'.cell? ⟨ob, 4, none⟩ = some (.int .u64 x4)) ((first | exact ⟨hr4.tc.2.2.2, hr4.cells.2.2.1, hr4.cells.2.2.2.2⟩ | go_keep)) ((first | (go_at_call 19; with_reducible refine (k2 _ hr3.drew).mono ?_; rintro y w4 ⟨rfl, hg4, hb4⟩; have hr4 : Rd w w4 tb a0 a1 b0 b1 (c0) (cn) (c0) (cn) ob 2 x1 x2 x3 x4 := ⟨hr3.drew.ck.sety1 hg4 hb4, hr3.drew.op_ne hr3.drew.ck.y1 (by decide) hg4⟩)))
            have hs := same_20 hr4.ck
            clear k2 q0 q1 q2 q3 r0 r1 r2 r3 r4
            go_wp2_with (first | (go_at_call 20; go_must (refine hs.mono ?_); rintro y w5 ⟨rfl, hg5⟩) | fail)
            exact ⟨⟨i + 1, _, _, _, _, _, _, by omega, by omega, by go_num, hr4.ck.kept0 hg5, ok0, hok⟩, by simp [intOf]; omega⟩
          · by_cases h3 : x0 = 3
            · subst h3
              go_wp2_with fail
              obtain ⟨ob, hob⟩ : ∃ ob, ob = wr.heap.size := ⟨_, rfl⟩
              rw [← hob] at hr ⊢
              clear hob y0 y1 y2 y3 y4
              generalize wr.alloc (.cells #[.int .i64 3, .int .i64 x1, .int .i64 x2, .int .i64 x3, .int .u64 x4] 40) = V at *
              obtain ⟨e0, e1, e2, e3, e4⟩ := hr.cells
              by_cases hbad : badNew x2 x3
              · have k1 := begin_no hr.ck.box 1 x2 x4 x3 hbad
                have hs := same_20 hr.ck
                refine k1.mono ?_
                rintro y w3 ⟨rfl, rfl⟩
                go_wp2_with (first | (go_at_call 20; go_must (refine hs.mono ?_); rintro y w5 ⟨rfl, hg5⟩) | fail)
                exact ⟨⟨i + 1, _, _, _, _, _, _, by omega, by omega, by go_num, hr.ck.kept0 hg5, ok0, ok1⟩, by simp [intOf]; omega⟩
              · have k1 := begin_yes1 hr.ck.box x2 x4 x3 hbad
                refine k1.mono ?_
                rintro y w3 ⟨rfl, hg3, hb3, hx3, hy3⟩
                have hr3 := hr.ck.new1 hg3 hb3 hx3 hy3
                have hs := same_20 hr3
                clear k1
                go_wp2_with (first | (go_at_call 20; go_must (refine hs.mono ?_); rintro y w5 ⟨rfl, hg5⟩) | fail)
                exact ⟨⟨i + 1, _, _, _, _, _, _, by omega, by omega, by go_num, hr3.kept0 hg5, ok0, CkOk.new hbad b3⟩, by simp [intOf]; omega⟩
            · go_wp2_with fail
              obtain ⟨ob, hob⟩ : ∃ ob, ob = wr.heap.size := ⟨_, rfl⟩
              rw [← hob] at hr ⊢
              clear hob y0 y1 y2 y3 y4
              generalize wr.alloc (.cells #[.int .i64 x0, .int .i64 x1, .int .i64 x2, .int .i64 x3, .int .u64 x4] 40) = V at *
              obtain ⟨e0, e1, e2, e3, e4⟩ := hr.cells
              refine (same_20 hr.ck).mono ?_
              rintro y w5 ⟨rfl, hg5⟩
              go_wp2
              exact ⟨⟨i + 1, _, _, _, _, _, _, by omega, by omega, by go_num, hr.ck.kept0 hg5, ok0, ok1⟩, by simp [intOf]; omega⟩
    · have h13 := wakes_13 wr
      have hg := hc.g
      have hcond : ¬ (i < n ∧ i < 600) := hlt2
      clear hin hc
      by_cases hn2 : i < n
      · have hd1 : decide ((i : Int) < n) = true := by simp; omega
        have hd2 : decide ((i : Int) < 600) = false := by simp; omega
        have hd3 : decide (i < n) = true := by simp; omega
        have hd4 : decide (i < 600) = false := by simp; omega
        go_wp2_with (first | (go_at_call 13; go_must (refine h13.mono ?_); rintro y w' ⟨rfl, hg'⟩) | fail)
        go_ret
        exact ⟨rfl, gb_trans hg hg'⟩
      · have hd1 : decide ((i : Int) < n) = false := by simp; omega
        have hd3 : decide (i < n) = false := by simp; omega
        go_wp2_with (first | (go_at_call 13; go_must (refine h13.mono ?_); rintro y w' ⟨rfl, hg'⟩) | fail)
        go_ret
        exact ⟨rfl, gb_trans hg hg'⟩

end Go.Proofs.Ytagcmfaljfaikaa
