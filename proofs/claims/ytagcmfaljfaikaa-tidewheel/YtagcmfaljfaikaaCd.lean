/-
  TideWheel: a step: Due.
-/
import Derived.Test.YtagcmfaljfaikaaCc
namespace Go.Proofs.Ytagcmfaljfaikaa
open Go.RowKit
set_option linter.unusedVariables false

theorem nodup_len : ∀ (a b : List En), a.Nodup → (∀ x, x ∈ a → x ∈ b) → a.length ≤ b.length := by
  classical
  intro a
  induction a with
  | nil => intros; simp
  | cons x a ih =>
    intro b hn hs
    rw [List.nodup_cons] at hn
    have h1 := ih (b.erase x) hn.2 (fun y hy => by
      have hne : y ≠ x := fun e => hn.1 (e ▸ hy)
      exact (List.mem_erase_of_ne hne).2 (hs y (by simp [hy])))
    have h2 := List.length_erase_of_mem (hs x (by simp))
    have h3 := List.length_pos_of_mem (hs x (by simp))
    simp; omega
theorem Told.le {q ds : List En} {now most : Int} (h : Told (fun y => y ∈ q) now most ds) : ds.length ≤ q.length :=
  nodup_len ds q (h.pw.imp (fun {a b} hab e => by subst e; exact ah_irrefl _ hab)) (fun x hx => (h.inn x hx).1)

theorem bk_any {w : World} {bb : Nat} {FB : Nat → Prop} {hv wv : Value} {n : Int} {K : Nat} {V W : Nat → Value} {D : Nat → List Int} (h : Bk w bb FB hv wv n K V W D) (hK : K < 5000) {v : Value} {xs : List Int} (hv0 : w.ownsRow 0 89 1 v xs.length (hvals xs)) (hxl : xs.length ≤ 1000) (hvF : ∀ g, v.ownBlock = some g → ¬ FB g) :
    Calls Try.prog 47 #[.pointer (some ⟨bb, 0, none⟩), v] w fun y w' => y = .returned (.tuple #[]) ∧ BkPost w bb FB K v w' := by
  obtain ⟨ao, cp, hd, _, _, _, _⟩ := row_shape hv0
  subst hd
  by_cases hn : 200000 < n
  · exact bk_full h hn _
  · exact bk_keep h hn hK hv0 hxl hvF

theorem row89 {w w' : World} {B : Nat} {v : Value} {m : Nat} {ys : List Value} (h : w.ownsRow B 89 1 v m ys) (h9 : ∀ (k : Nat) (cur : Array Value), w.heap[k]? = some (Obj.cells cur 89 (0, 0)) → w'.heap[k]? = w.heap[k]?) : w'.ownsRow B 89 1 v m ys :=
  row_same h (fun k hk => by obtain ⟨cur, hc⟩ := row_block h k hk; exact h9 k cur hc)

section
variable {w : World} {B tb bb : Nat} {wb rb : Nat → Nat} {P : Nat → Nat → Prop} {l : Nat → List En} {sets : Nat → Nat} {N K j : Nat}
/-- Both lists go into the Book. -/
theorem Ws.two (h : Ws w B tb bb wb rb P l sets N K) (hK : K < 4000) {C : Nat} {av bv mv : Value} {xs : List Int} (hxl : xs.length ≤ 1000) (ha : w.ownsRow C 89 1 av xs.length (hvals xs)) (hb : w.ownsRow C 89 1 bv xs.length (hvals xs)) (hm : w.ownsRow C 89 1 mv xs.length (hvals xs)) (hC : ∀ a k, P a k → k < C) (hBC : B ≤ C) (hCw : C ≤ w.heap.size) (hab : ∀ g, av.ownBlock = some g → bv.ownBlock ≠ some g) :
    Calls Try.prog 47 #[.pointer (some ⟨bb, 0, none⟩), av] w fun y w6 => y = .returned (.tuple #[]) ∧ w6.cell? ⟨tb, 4, none⟩ = some (.pointer (some ⟨bb, 0, none⟩)) ∧
      Calls Try.prog 47 #[.pointer (some ⟨bb, 0, none⟩), bv] w6 fun y w7 => y = .returned (.tuple #[]) ∧ StPost B tb bb N K w w7 ∧ w7.ownsRow C 89 1 av xs.length (hvals xs) ∧ w7.ownsRow C 89 1 bv xs.length (hvals xs) ∧ w7.ownsRow C 89 1 mv xs.length (hvals xs) := by
  obtain ⟨hv, wv, n, V, W, D, bk⟩ := h.bk
  refine (bk_any bk (by omega) (row_base ha (Nat.zero_le _)) hxl (fun g hg h4 => by have := hC 4 g h4; have := (own_lo ha hg).1; omega)).mono ?_
  rintro y w6 ⟨rfl, hk6, h96, FB6, hv6, wv6, n6, K6, V6, W6, D6, bk6, hK6, hF6⟩
  have hb6 := row89 hb h96
  have h5 : ¬ P 4 tb := fun e => by have := h.dis 4 5 tb e h.p5; omega
  refine ⟨rfl, (hk6.box h.box h5).cell 4, (bk_any bk6 (by omega) (row_base hb6 (Nat.zero_le _)) hxl (fun g hg h4 => ?_)).mono ?_⟩
  · rcases hF6 g h4 with h1 | h1 | h1
    · have := hC 4 g h1; have := (own_lo hb hg).1; omega
    · exact hab g h1 hg
    · have := (own_lo hb hg).2; omega
  · rintro y w7 ⟨rfl, hk7, h97, FB7, hv7, wv7, n7, K7, V7, W7, D7, bk7, hK7, hF7⟩
    have hs6 := hk6.size
    have hk : Kp (fun k => P 4 k ∨ C ≤ k) w w7 := hk6.trans hk7 (fun k hk => .inl hk) (fun k hk => by
      rcases hF6 k hk with h1 | h1 | h1
      · exact .inl (.inl h1)
      · exact .inl (.inr (own_lo ha h1).1)
      · exact .inr h1)
    have hF : ∀ k, FB7 k → P 4 k ∨ C ≤ k := fun k hk => by
      rcases hF7 k hk with h1 | h1 | h1
      · rcases hF6 k h1 with h2 | h2 | h2
        · exact .inl h2
        · exact .inr (own_lo ha h2).1
        · exact .inr (by omega)
      · exact .inr (own_lo hb h1).1
      · exact .inr (by omega)
    have hkn := h.kn
    refine ⟨rfl, ⟨hk.mono (fun k hk => .inl (hk.elim (h.lo _ _) (fun h => by omega))), wb, rb, _, l, sets, K7, by omega, h.book hC hBC hk hF ⟨_, _, _, _, _, _, bk7⟩ (by omega) (by omega)⟩, row89 (row89 ha h96) h97, row89 hb6 h97, row89 (row89 hm h96) h97⟩

set_option maxRecDepth 100000 in
set_option maxHeartbeats 8000000 in
theorem step_due (h : Ws w B tb bb wb rb P l sets N K) (hj : j < 2) {x1 x2 x3 x4 : Int} (hbit : bits BinOp.and .i64 x1 1 = (j : Int)) (hN : N < 1000) (hx2 : isI x2) (hx3 : isI x3) :
    Calls Try.prog 22 #[.pointer (some ⟨tb, 0, none⟩), opV 7 x1 x2 x3 x4] w fun y w' => y = .returned (.bool true) ∧ StPost B tb bb N K w w' := by
  have hg0 := World.grownBy_alloc w (.cells (opA 7 x1 x2 x3 x4) 40) none
  have hA := h.kept0 hg0
  have hbo : Box (w.alloc (.cells (opA 7 x1 x2 x3 x4) 40)) 40 w.heap.size (opA 7 x1 x2 x3 x4) := heap_alloc_new w _
  have hp := hA.pr j hj
  obtain ⟨lv0, hR0⟩ := hp.rw_
  have hbig := hA.big j hj
  have hlen := hp.len
  have hkn := hA.kn
  have hcw : (w.alloc (.cells (opA 7 x1 x2 x3 x4) 40)).cell? ⟨tb, j, none⟩ = some (.pointer (some ⟨wb j, 0, none⟩)) := by
    rw [hA.box.cell j]; rcases (show j = 0 ∨ j = 1 by omega) with rfl | rfl <;> rfl
  have hcr : (w.alloc (.cells (opA 7 x1 x2 x3 x4) 40)).cell? ⟨tb, 2 + j, none⟩ = some (.pointer (some ⟨rb j, 0, none⟩)) := by
    rw [hA.box.cell (2 + j)]; rcases (show j = 0 ∨ j = 1 by omega) with rfl | rfl <;> rfl
  have hT : ∀ x y, x ∈ l j → y ∈ l j → x.t = y.t → x = y := fun x y hx hy ht => by
    obtain ⟨i, hi, rfl⟩ := mem_gt hx
    obtain ⟨k, hk, rfl⟩ := mem_gt hy
    rcases Nat.lt_trichotomy i k with h3 | h3 | h3
    · have := gt_turn hp.srt h3 hk; omega
    · rw [h3]
    · have := gt_turn hp.srt h3 hi; omega
  have h31 := fun w2 (hg : (w.alloc (.cells (opA 7 x1 x2 x3 x4) 40)).grownBy w2 none) => due_31 (hp.wh.kept0 hg) (show (l j).length < 100000 by omega) hp.hh hT x2 x3 hx3 hx2
  have h46 := fun w2 (hg : (w.alloc (.cells (opA 7 x1 x2 x3 x4) 40)).grownBy w2 none) => rdue_46 (hR0.kept0 hg) (show (l j).length < 100000 by omega) hp.srt hp.one x2 x3 hx2 hx3
  have h31a := h31 _ (gb_refl _ _)
  have HA : Hid (∀ w2, (w.alloc (.cells (opA 7 x1 x2 x3 x4) 40)).grownBy w2 none → Ws w2 B tb bb wb rb P l sets N K ∧ Box w2 40 w.heap.size (opA 7 x1 x2 x3 x4)) := fun w2 hg => ⟨hA.kept0 hg, hbo.kept hg (by simp)⟩
  have HP : Hid (∀ a k, P a k → k < (w.alloc (.cells (opA 7 x1 x2 x3 x4) 40)).heap.size) := hA.fl
  have HB : Hid (B ≤ (w.alloc (.cells (opA 7 x1 x2 x3 x4) 40)).heap.size) := hA.hB
  have HG : Hid (w.grownBy (w.alloc (.cells (opA 7 x1 x2 x3 x4) 40)) none) := hg0
  have HL : Hid ((l j).length ≤ 1000) := by show (l j).length ≤ 1000; omega
  clear hR0 hp hA hbo h hlen hbig hg0 hT
  unfold opV
  go_enter Try.func22, Try.ntmps22
  unfold opA at *
  go_wp2_with (go_at_call 31; go_must (refine h31a.mono ?_))
  rintro y w2 ⟨av, ds, rfl, hg2, ht2, hr2⟩
  obtain ⟨_, hb2⟩ := HA.out w2 hg2
  have o2 : w2.cell? ⟨w.heap.size, 2, none⟩ = some (.int .i64 x2) := hb2.cell 2
  have o3 : w2.cell? ⟨w.heap.size, 3, none⟩ = some (.int .i64 x3) := hb2.cell 3
  have h31b := h31 w2 hg2
  obtain ⟨aa, ac, had, _, _, _, _⟩ := row_shape hr2
  subst had
  have HT : Hid (Told (fun y => y ∈ l j) x2 x3 ds) := ht2
  have HR2 : Hid _ := hr2
  have HG2 : Hid _ := hg2
  clear hcw hcr h31 h31a hb2 ht2 hr2 hg2
  go_wp2_with (go_at_call 31; go_must (refine h31b.mono ?_))
  rintro y w3 ⟨bv, ds3, rfl, hg3, ht3, hr3⟩
  obtain rfl := told_one _ _ _ _ _ HT.out ht3
  have hg3A := gb_trans HG2.out hg3
  obtain ⟨_, hb3⟩ := HA.out w3 hg3A
  have o2 : w3.cell? ⟨w.heap.size, 2, none⟩ = some (.int .i64 x2) := hb3.cell 2
  have o3 : w3.cell? ⟨w.heap.size, 3, none⟩ = some (.int .i64 x3) := hb3.cell 3
  have h46a := h46 w3 hg3A
  obtain ⟨ba, bc, hbd, _, _, _, _⟩ := row_shape hr3
  subst hbd
  have HR3 : Hid _ := hr3
  have HG3 : Hid _ := hg3
  clear h46 h31b hb3 ht3 hr3 hg3 hg3A
  go_wp2_with (go_at_call 46; go_must (refine h46a.mono ?_))
  rintro y w4 ⟨rv, ds4, rfl, hg4, ht4, hr4⟩
  obtain rfl := told_one _ _ _ _ _ HT.out ht4
  obtain ⟨ra, rc, hrd, _, _, _, _⟩ := row_shape hr4
  subst hrd
  have hxl : (ds.map En.h).length ≤ 1000 := by have := HT.out.le; have := HL.out; simp; omega
  have hlq : ds.length = (ds.map En.h).length := by simp
  have HQ2 : Hid (w2.ownsRow (w.alloc (.cells #[.int .i64 7, .int .i64 x1, .int .i64 x2, .int .i64 x3, .int .u64 x4] 40)).heap.size 89 1 (.slice aa ds.length ac) ds.length (hvals (ds.map En.h))) := by rw [← hvals_map]; exact HR2.out
  have HQ3 : Hid (w3.ownsRow w2.heap.size 89 1 (.slice ba ds.length bc) ds.length (hvals (ds.map En.h))) := by rw [← hvals_map]; exact HR3.out
  rw [hvals_map] at hr4
  clear HR2 HR3 HT HL ht4 h46a
  revert HQ2 HQ3 hr4
  rw [hlq]
  generalize ds.map En.h = xs at *
  intro hr4 HQ2 HQ3
  have h45 := handles_45 hr4 (by omega)
  have HG4 : Hid _ := hg4
  clear hr4 hg4 hlq o2 o3
  go_wp2_with (go_at_call 45; go_must (refine h45.mono ?_))
  rintro y w5 ⟨mv, rfl, hg5, hm5⟩
  obtain ⟨ma, mc, hmd, _, _, _, _⟩ := row_shape hm5
  subst hmd
  have hgA3 := gb_trans HG2.out HG3.out
  have hg35 := gb_trans HG4.out hg5
  have hgA5 := gb_trans hgA3 hg35
  obtain ⟨hW5, _⟩ := HA.out w5 hgA5
  have hs2 := HG2.out.size
  have hs3 := HG3.out.size
  have hs4 := HG4.out.size
  have h47 := hW5.two (by omega) hxl (row_kept (row_kept (row_kept HQ2.out HG3.out (by simp)) HG4.out (by simp)) hg5 (by simp)) (row_base (row_kept (row_kept HQ3.out HG4.out (by simp)) hg5 (by simp)) hs2) (row_base hm5 (by omega)) HP.out HB.out hgA5.size (fun g h1 h2 => by have := (own_lo HQ2.out h1).2; have := (own_lo HQ3.out h2).1; omega)
  have b5 : w5.cell? ⟨tb, 4, none⟩ = some (.pointer (some ⟨bb, 0, none⟩)) := hW5.box.cell 4
  have HK5 : Hid (Kp (fun k => B ≤ k) w w5) := Kp.of (gb_trans HG.out hgA5)
  clear h45 hW5 hgA3 hg35 hgA5 hs2 hs3 hs4 hg5 hm5 HQ2 HQ3 HG2 HG3 HG4 HG HP HB HA
  go_wp2_with (go_at_call 47; go_must (refine h47.mono ?_))
  rintro y w6 ⟨rfl, b6, h47b⟩
  clear h47 b5
  go_wp2_with (go_at_call 47; go_must (refine h47b.mono ?_))
  rintro y w7 ⟨rfl, ⟨hk7, hs7⟩, r1, r2, r3⟩
  obtain ⟨q1, q2, q3, q4⟩ := HsH.of_row0 r1
  obtain ⟨q5, q6, q7, q8⟩ := HsH.of_row0 r2
  obtain ⟨q9, q10, q11, q12⟩ := HsH.of_row0 r3
  injection q3 with e1 _ e2
  injection q7 with e3 _ e4
  injection q11 with e5 _ e6
  subst e1 e2 e3 e4 e5 e6
  have h35 := handles_35 q4 q12 ac mc (by omega)
  have h35b := fun w8 (hg : w7.grownBy w8 none) => handles_35 (q8.kept0 hg) (q12.kept0 hg) bc mc (by omega)
  have HF : Hid (∀ w9, w7.grownBy w9 none → StPost B tb bb N K w w9) := fun w9 hg => ⟨(HK5.out.trans hk7 (fun _ h => h) (fun _ h => .inl h)).step hg (by simp), by
    obtain ⟨wb', rb', P', l', s', K', z1, z2⟩ := hs7
    exact ⟨wb', rb', P', l', s', K', z1, z2.kept0 hg⟩⟩
  clear h47b b6 hk7 hs7 r1 r2 r3 q4 q8 q12 HK5
  go_wp2_with (go_at_call 35; go_must (refine h35.mono ?_))
  rintro y w8 ⟨rfl, hg8⟩
  have h35c := h35b w8 hg8
  clear h35 h35b
  go_wp2_with (go_at_call 35; go_must (refine h35c.mono ?_))
  rintro y w9 ⟨rfl, hg9⟩
  have HZ : Hid _ := HF.out w9 (gb_trans hg8 hg9)
  clear h35c HF hg8 hg9
  go_wp2
  go_ret
  exact ⟨rfl, HZ.out⟩
end

end Go.Proofs.Ytagcmfaljfaikaa
