/-
  TideFlush: a day.
-/
import Derived.Test.YtagcmfaljfaikaaX
import Derived.Deep.RegionLaw
namespace Go.Proofs.Ytagcmfaljfaikaa
open Go.RowKit
set_option linter.unusedVariables false

theorem Try.info81 : (Try.prog.info? 81).map (fun i => (i.zero, i.size, i.bytes)) = some (some (.agg #[.int .u64 0, .bool false]), 2, 16) := by kernel_rfl
def dayV (x0 x1 : Int) (x2 : Bool) : Value := .agg #[.int .i64 x0, .int .i64 x1, .bool x2]
def dayA (x0 x1 : Int) (x2 : Bool) : Array Value := #[.int .i64 x0, .int .i64 x1, .bool x2]

/-- What a day leaves. -/
def DayPost (w : World) (wb cb m : Nat) (now : Int) (w' : World) : Prop :=
  ∃ tv' m' d' now' comes', m' ≤ m + 1 ∧ now' ≤ now + 1000000 ∧ FSt w w' wb cb tv' m' d' now' comes'

section
variable {w wr w' : World} {wb cb : Nat} {tv : Value} {m d : Nat} {now comes : Int}
/-- another thing is stored -/
theorem Thg.push (h : Thg w wr wb cb tv m now comes (bornC d)) {V : World} {v2 : Int} (hb : Box V 76 wb #[.pointer (some ⟨cb, 0, none⟩), tv, .int .u64 v2, .int .i64 now, .int .i64 comes]) (hv : v2 = ((m + 1 : Nat) : Int)) {w5 : World} {g2 cap2 : Nat}
    (hown : w5.ownsRow w.heap.size 81 2 (.slice (some ⟨g2, 0, none⟩) (m + 1) cap2) (m + 1) (rng m (bornC d) ++ [.int .u64 v2, .bool false])) (hd : d ≤ m) (hb5 : Box w5 76 wb #[.pointer (some ⟨cb, 0, none⟩), tv, .int .u64 v2, .int .i64 now, .int .i64 comes]) :
    Thg w (w5.setCell ⟨wb, 1, none⟩ (.slice (some ⟨g2, 0, none⟩) (m + 1) cap2)) wb cb (.slice (some ⟨g2, 0, none⟩) (m + 1) cap2) (m + 1) now comes (bornC d) := by
  subst hv
  obtain ⟨cur, hcur⟩ := row_block hown g2 rfl
  have hne : wb ≠ g2 := ne_of_type hb5 hcur (by decide)
  refine ⟨hb5.set 1 _, ?_, h.lw⟩
  have hr : rng m (bornC d) ++ [.int .u64 ((m + 1 : Nat) : Int), .bool false] = rng (m + 1) (bornC d) := by
    rw [rng_succ]; congr 1
    unfold bornC
    rw [show decide (m < d) = false by simp; omega]
  rw [hr] at hown
  exact row_kept hown (gb_setCell (gb_refl _ _) _) (fun k hk => by simp [Value.ownBlock] at hk; subst hk; simp; exact fun e => hne e.symm)

set_option maxRecDepth 100000 in
set_option maxHeartbeats 8000000 in
theorem day_store (h : FSt w wr wb cb tv m d now comes) (hm : m < 900000) (x1 : Int) (x2 : Bool) :
    Calls Try.prog 26 #[.pointer (some ⟨wb, 0, none⟩), dayV 1 x1 x2] wr fun y w' => y = .returned (.bool true) ∧ DayPost w wb cb m now w' := by
  obtain ⟨ao, cap, hrv, hnil, hcap, hmax, hpos⟩ := row_shape h.th.row
  subst hrv
  have hal := World.grownBy_alloc wr (.cells (dayA 1 x1 x2) 79) none
  have hD : Box (wr.alloc (.cells (dayA 1 x1 x2) 79)) 79 wr.heap.size (dayA 1 x1 x2) := Box.new _ _ _
  have h1 := h.kept0 hal
  unfold dayA at hal hD h1
  unfold dayV
  obtain ⟨ob, hob⟩ : ∃ ob, ob = wr.heap.size := ⟨_, rfl⟩
  rw [← hob] at hD
  have hmw : IntKind.u64.wrap ((m : Int) + 1) = (m : Int) + 1 := by simp [IntKind.wrap, IntKind.bits, IntKind.signed]; omega
  obtain ⟨i0, hi0, hz0, hz1, hz2⟩ := info_parts Try.info81
  have hdm := h.dm
  have hbl := h.th.box.lt
  obtain ⟨e0, e1, e2, e3, e4⟩ := h1.cells
  have f2 := h1.th.box.fz 2
  go_enter Try.func26, Try.ntmps26
  go_wp2_with fail
  have hset : wr.grownBy (wr.setCell ⟨wb, 2, none⟩ (.int .u64 ((m : Int) + 1))) (some wb) := gb_setCell (gb_refl _ _) _
  have hal2 := World.grownBy_alloc (wr.setCell ⟨wb, 2, none⟩ (.int .u64 ((m : Int) + 1))) (.cells #[.int .i64 1, .int .i64 x1, .bool x2] 79) none
  have hbV : Box _ 76 wb #[.pointer (some ⟨cb, 0, none⟩), .slice ao m cap, .int .u64 ((m : Int) + 1), .int .i64 now, .int .i64 comes] := (h.th.box.set 2 (.int .u64 ((m : Int) + 1))).kept hal2 (by simp)
  have hrV := row_kept (row_kept h.th.row hset (fun j hj e => (h.th.tg hj).1 (Option.some.inj e).symm)) hal2 (by simp)
  have hcV := (h.ck.kept hset (box_ne h.ck h.th.box (by decide))).kept hal2 (by simp)
  have hgV := gb_trans (gb_mine h.g hset h.th.lw) hal2
  have hth := h.th
  have hlc := h.lc; have hn1 := h.n1; have hn2 := h.n2; have hc0 := h.c0; have hc1 := h.c1
  clear hset hal2 h h1 hal hD e0 e1 e2 e3 e4 f2 hbl hob hnil hpos
  generalize (wr.setCell ⟨wb, 2, none⟩ (.int .u64 ((m : Int) + 1))).alloc (.cells #[.int .i64 1, .int .i64 x1, .bool x2] 79) = V at *
  have k1 : V.cell? ⟨wb, 1, none⟩ = some (.slice ao m cap) := hbV.cell 1
  have k2 : V.cell? ⟨wb, 2, none⟩ = some (.int .u64 ((m : Int) + 1)) := hbV.cell 2
  have al := fun (o : Obj) (x : Addr) (v : Value) (hv : V.cell? x = some v) => gb_cellN (World.grownBy_alloc V o none) hv
  have a1 := fun o => al o _ _ k1
  have a2 := fun o => al o _ _ k2
  clear al
  have hsz := hgV.size
  have HR : Hid (V.ownsRow w.heap.size 81 2 (.slice ao m cap) m (rng m (bornC d))) := hrV
  have HB : Hid (Box V 76 wb #[.pointer (some ⟨cb, 0, none⟩), .slice ao m cap, .int .u64 ((m : Int) + 1), .int .i64 now, .int .i64 comes]) := hbV
  go_region_law ((refine step_append_lies _ (by rfl) _ _ _ (by rfl) w.heap.size 81 i0 _ 2 16 Try.underlying74 hi0 hz0 hz1 hz2 rfl (by omega) (.slice ao m cap) m _ (by rfl) (World.ownsRow.alloc (w := V) HR.out _) ⟨V.heap.size, 0, none⟩ 1 1 [.int .u64 ((m : Int) + 1), .bool false] (by rfl) (by rfl) (World.news_of_block (cs := #[.int .u64 ((m : Int) + 1), .bool false]) (t := 81) (fr := (0, 0)) (heap_alloc_new V _)) (by simp [Value.oneCell']) (by omega) (by unfold maxLen; omega) (by omega) (by simp; omega) (V.heap.size + 1) (by simp) ?_; intro g2 cap2 w5 hown5 hgrow5 hat5 hlt5; have hg5 : V.grownBy w5 (Value.slice ao m cap).ownBlock := gb_trans (by first | exact gb_drew (gb_alloc (gb_refl _ _) _) | exact gb_alloc (gb_drew (gb_refl _ _)) _) hgrow5; have b3 := HB.out.kept hg5 (fun e => (by obtain ⟨cur, hc⟩ := row_block HR.out _ e.symm; exact ne_of_type HB.out hc (by decide) rfl)); have b4 : w5.cell? ⟨wb, 1, none⟩ = some (.slice ao m cap) := b3.cell 1; have b5 : w5.frozen? ⟨wb, 1, none⟩ = false := b3.fz 1))
  all_goals
    have ht5 := hth.push hbV (by omega) hown5 hdm b3
    have hck5 := hcV.kept hg5 (fun e => by obtain ⟨cur, hc⟩ := row_block HR.out _ e.symm; exact ne_of_type hcV hc (by decide) rfl)
    have hgs : w5.grownBy (w5.setCell ⟨wb, 1, none⟩ (.slice (some ⟨g2, 0, none⟩) (m + 1) cap2)) (some wb) := gb_setCell (gb_refl _ _) _
    have hck6 := hck5.kept hgs (box_ne hck5 b3 (by decide))
    have hrow0 : ∀ j, (Value.slice ao m cap).ownBlock = some j → w.heap.size ≤ j := fun j hj => by
      rcases HR.out.2 with ⟨h1, _⟩ | ⟨g, c, cur, h1, h2, h3, _⟩
      · rw [h1] at hj; simp [Value.ownBlock] at hj
      · rw [h1] at hj; simp [Value.ownBlock] at hj; subst hj; exact h2
    have hg6 : w.grownBy w5 none := gb_of_kp hgV ((Kp.refl (fun j => (Value.slice ao m cap).ownBlock = some j) V).step hg5 (fun j hj => .inl hj)) hrow0
    have hfin : FSt w (w5.setCell ⟨wb, 1, none⟩ (.slice (some ⟨g2, 0, none⟩) (m + 1) cap2)) wb cb (.slice (some ⟨g2, 0, none⟩) (m + 1) cap2) (m + 1) d now comes := ⟨ht5, hck6, gb_mine hg6 hgs hth.lw, hlc, by omega, hn1, hn2, hc0, hc1⟩
    have hpost : DayPost w wb cb m now (w5.setCell ⟨wb, 1, none⟩ (.slice (some ⟨g2, 0, none⟩) (m + 1) cap2)) := ⟨_, _, _, _, _, Nat.le_refl _, by omega, hfin⟩
    clear hfin hck6 hck5 ht5 hown5 hgrow5 hg5 b3 b4 b5 HR HB hrV hbV k1 k2 a1 a2 hcV
    go_wp2
    go_ret
    exact ⟨rfl, hpost⟩
end

end Go.Proofs.Ytagcmfaljfaikaa
