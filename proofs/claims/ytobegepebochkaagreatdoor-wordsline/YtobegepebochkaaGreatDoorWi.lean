import Derived.Great.Walk
import Derived.Deep.RegionHeld3
import Derived.Great.BuildSlice
import Derived.Test.YtobegepebochkaaGreatDoorZv
import Derived.Test.YtobegepebochkaaGreatDoorWd
import Derived.Test.YtobegepebochkaaGreatDoorSf
/-
  WordsFlags' walk.
-/
namespace Go.Proofs.YtobegepebochkaaGreatDoor
open Go.RowKit Go.Maps
set_option linter.unusedVariables false
set_option linter.unusedSimpArgs false

/-- A row of verbs with flags that came in. -/
def Gd (w : World) (v : Value) (gs : List (Int × Value × List Fl)) : Prop := ∃ a n c, v = .slice a n c ∧ n = gs.length ∧ (0 < gs.length → ∃ g o, a = some ⟨g, o, none⟩ ∧ ∀ i x, gs[i]? = some x →
  w.cell? ⟨g, o + i * 2, none⟩ = some (.int .i64 x.1) ∧ w.cell? ⟨g, o + i * 2 + 1, none⟩ = some x.2.1 ∧ Fi w x.2.1 x.2.2 ∧ x.2.2.length * 32 ≤ 140737488351232 ∧ ∀ f ∈ x.2.2, f.arg.length ≤ 140737488351232)
theorem own_empty (w : World) : (w.alloc (.cells #[] 79)).ownsRow w.heap.size 79 3 (.slice (some ⟨w.heap.size, 0, none⟩) 0 0) 0 [] := by
  refine ⟨rfl, .inr ⟨w.heap.size, 0, #[], rfl, ?_, ?_, ?_, ?_, ?_⟩⟩
  all_goals simp
  exact Option.some.inj ((Array.getElem?_eq_getElem _).symm.trans (heap_alloc_new w (.cells #[] 79)))
/-- The law's mark. -/
abbrev mk : Fl := ⟨109, [109, 97, 114, 107], false⟩
theorem mark_fi (w : World) : Fi (w.alloc (.cells #[.int .u8 109, .string ⟨#[109, 97, 114, 107]⟩, .bool false] 79)) (.slice (some ⟨w.heap.size, 0, none⟩) 1 1) [mk] := by
  have hb := Box.new w 79 #[.int .u8 109, .string ⟨#[109, 97, 114, 107]⟩, .bool false]
  refine .inr ⟨w.heap.size, 0, 1, rfl, fun i f hi => ?_⟩
  match i, hi with
  | 0, hi =>
    injection hi with hi
    subst hi
    exact ⟨hb.cell 0, hb.cell 1, hb.cell 2⟩
  | n + 1, hi => simp at hi
theorem mark_kept {w : World} {B n : Nat} {v : Value} {xs : List Value} (h : w.ownsRow B 79 3 v n xs) : (w.alloc (.cells #[.int .u8 109, .string ⟨#[109, 97, 114, 107]⟩, .bool false] 79)).ownsRow B 79 3 v n xs :=
  row_kept h (gb_alloc (gb_refl w none) _) (fun k hk e => by cases e)
theorem row_far {w : World} {B : Nat} {e : TypeId} {s : Nat} {v : Value} {n : Nat} {xs : List Value} (h : w.ownsRow B e s v n xs) : ∀ i, v.ownBlock = some i → B ≤ i := by
  intro i hi
  rcases h.2 with ⟨rfl, _⟩ | ⟨g, c, cur, rfl, hb, _⟩
  · cases hi
  · injection hi with hi; subst hi; first | exact hb | exact hb.1
theorem cut_in {w : World} {B : Nat} {v : Value} {fs : List Fl} (h : w.ownsRow B 79 3 v (fs.length + [mk].length) (fcs fs ++ fcs [mk])) : ∃ g c, v = .slice (some ⟨g, 0, none⟩) (fs.length + 1) c ∧ Fs w (.slice (some ⟨g, 0, none⟩) fs.length c) fs ∧
    w.cell? ⟨g, fs.length * 3, none⟩ = some (.int .u8 109) ∧ w.cell? ⟨g, fs.length * 3 + 1, none⟩ = some (.string ⟨#[109, 97, 114, 107]⟩) ∧ w.cell? ⟨g, fs.length * 3 + 2, none⟩ = some (.bool false) := by
  obtain ⟨ao, c, rfl, _, h2, _, h4⟩ := row_shape h
  obtain ⟨g, rfl⟩ := h4 (by simp)
  have hl := fcs_len fs
  refine ⟨g, c, rfl, .inr ⟨g, c, rfl, fun i f hi => ?_⟩, row_cell h _ _ ?_, row_cell h _ _ ?_, row_cell h _ _ ?_⟩
  · have hil := (List.getElem?_eq_some_iff.1 hi).1
    obtain ⟨x, y, z⟩ := fcs_get3 fs i f hi
    exact ⟨row_cell h _ _ (by rw [List.getElem?_append_left (by omega)]; exact x), row_cell h _ _ (by rw [List.getElem?_append_left (by omega)]; exact y), row_cell h _ _ (by rw [List.getElem?_append_left (by omega)]; exact z)⟩
  · rw [List.getElem?_append_right (by omega), hl, Nat.sub_self]; rfl
  · rw [List.getElem?_append_right (by omega), hl, show fs.length * 3 + 1 - fs.length * 3 = 1 by omega]; rfl
  · rw [List.getElem?_append_right (by omega), hl, show fs.length * 3 + 2 - fs.length * 3 = 2 by omega]; rfl
set_option maxRecDepth 100000 in
set_option maxHeartbeats 4000000 in
theorem flags_6 {w : World} (hE : Er w) (sl : Value) (gs : List (Int × Value × List Fl)) (hn : gs.length ≤ 9223372036854775807) (hG : Gd w sl gs) :
    Calls Tryz.prog 6 #[sl] w fun e w' => e = .returned (.bool true) ∧ w.grownBy w' none := by
  obtain ⟨a, n, c, rfl, rfl, hG⟩ := hG
  have h24 := fun W (h : w.grownBy W none) => wakes_5 (hE.kept h)
  go_enter Tryz.func6, Tryz.ntmps6
  go_wp2
  go_loopw [3] (fun x wr => ∃ k : Nat, k ≤ gs.length ∧ k ≤ 200 ∧ x = .int .i64 k ∧ w.grownBy wr none) (fun x _ => 200 - (intOf x).toNat)
  case atStart => exact ⟨0, by omega, by omega, rfl, gb_refl _ _⟩
  case round =>
    obtain ⟨k, hk, hk3, rfl, hg⟩ := hrel
    by_cases hlt : k < gs.length ∧ k < 200
    · obtain ⟨x, hx⟩ : ∃ x, gs[k]? = some x := ⟨_, List.getElem?_eq_getElem hlt.1⟩
      obtain ⟨g, o, rfl, hc⟩ := hG (by omega)
      obtain ⟨c0, c1, hF, hl, hal⟩ := hc k x hx
      obtain ⟨vb, lv, fs⟩ := x
      have k0 : wr.cell? ⟨g, o + k * 2, none⟩ = some (.int .i64 vb) := gb_cellN hg c0
      have k1 : wr.cell? ⟨g, o + k * 2 + 1, none⟩ = some lv := gb_cellN hg c1
      have hFr : Fi wr lv fs := hF.kept hg
      clear c0 c1 hF
      dsimp only at hl hal
      have d1 : decide ((k : Int) < (gs.length : Int)) = true := decide_eq_true (by omega)
      have d2 : decide ((k : Int) < 200) = true := decide_eq_true (by omega)
      clear hc hx
      obtain ⟨la, lc, rfl⟩ : ∃ la lc, lv = .slice la fs.length lc := by
        rcases hFr with ⟨rfl, rfl | ⟨a', c', rfl⟩⟩ | ⟨g', o', c', rfl, _⟩ <;> exact ⟨_, _, rfl⟩
      have hF1 := hFr.kept (gb_alloc (gb_refl wr none) (.cells #[] 79))
      have oe := own_empty wr
      have c1A := gb_cellN (gb_alloc (gb_refl wr none) (.cells #[] 79)) k1
      have h0B : wr.heap.size ≤ (wr.alloc (.cells #[] 79)).heap.size := by simp
      go_wp2_with (first
        | (refine more79 rfl _ _ rfl wr.heap.size _ 0 [] rfl oe _ fs rfl hF1 (by omega) h0B ?_
           rintro v1 w1 hw1 hg1
           (have hg1 : wr.grownBy w1 none := gb_mine (gb_alloc (gb_refl wr none) (.cells #[] 79)) hg1 (Nat.le_refl _))
           (clear oe hF1 c1A h0B)
           (rw [Nat.zero_add, List.nil_append] at hw1)
           (have hw2 := mark_kept hw1)
           (have hFm := mark_fi w1)
           (have h0B : wr.heap.size ≤ (w1.alloc (.cells #[.int .u8 109, .string ⟨#[109, 97, 114, 107]⟩, .bool false] 79)).heap.size := by have := hg1.size; simp; omega)
           (obtain ⟨ao, cc, rfl, -⟩ := row_shape hw1))
        | (refine more79 rfl _ _ rfl wr.heap.size _ fs.length (fcs fs) rfl hw2 _ [mk] rfl hFm (by simp; omega) h0B ?_
           rintro v2 w2 hw3 hg2
           (clear hw2 hFm h0B)))
      have hg2 : wr.grownBy w2 none := gb_far (gb_alloc hg1 _) hg2 (fun i hi => row_far hw1 i hi) (Nat.le_refl _)
      have hEw := hE.kept (gb_trans hg hg2)
      have m0 := gb_cellN hg2 k0
      have m1 := gb_cellN hg2 k1
      have hFw := hFr.kept hg2
      obtain ⟨g2, c2, rfl, hcut, hcl⟩ := cut_in hw3
      have h37 := fun W (h : w2.grownBy W none) => flags_34w vb (.slice (some ⟨g2, 0, none⟩) fs.length c2) fs (fun f hf => by have := hal f hf; omega) (by omega) W (hEw.kept h) (hcut.kept0 h)
      have h38 := fun W (h : w2.grownBy W none) => rflags_38 vb (.slice la fs.length lc) fs (fun f hf => by have := hal f hf; omega) (by omega) W (hFw.kept h).fg
      have hcap : fs.length + 1 ≤ c2 := by
        obtain ⟨ao, cc, e, _, h3, _⟩ := row_shape hw3
        injection e with _ _ e
        subst e
        simpa using h3
      have b0 : (0 : Int) ≤ (fs.length : Int) := by omega
      have b1 : (fs.length : Int) ≤ (c2 : Int) := by omega
      have b2 : (fs.length : Int) < ((fs.length + 1 : Nat) : Int) := by omega
      have b3 : (fs.length : Int) < (fs.length : Int) + 1 := by omega
      go_region_held3 (fun W : World => W.cell? ⟨g, o + k * 2, none⟩ = some (.int .i64 vb) ∧ W.cell? ⟨g, o + k * 2 + 1, none⟩ = some (.slice la fs.length lc)) (go_keep) ((go_at_call 37; go_must ((with_reducible refine (h37 _ (gb_drew (gb_refl _ _))).mono ?_); rintro e w4 ⟨rfl, hg4⟩; (have hg5 : w2.grownBy w4 none := gb_trans (gb_drew (gb_refl _ _)) hg4); (have n0 := gb_cellN hg5 m0); (have n1 := gb_cellN hg5 m1))))
      obtain ⟨r0, r1, r2⟩ := hcl
      have q0 := gb_cellN hg5 r0
      have q1 := gb_cellN hg5 r1
      have q2 := gb_cellN hg5 r2
      go_wp2
      go_region_held3 (fun W : World => W.cell? ⟨g, o + k * 2, none⟩ = some (.int .i64 vb) ∧ W.cell? ⟨g, o + k * 2 + 1, none⟩ = some (.slice la fs.length lc) ∧ W.cell? ⟨g2, fs.length * 3, none⟩ = some (.int .u8 109) ∧ W.cell? ⟨g2, fs.length * 3 + 1, none⟩ = some (.string ⟨#[109, 97, 114, 107]⟩) ∧ W.cell? ⟨g2, fs.length * 3 + 2, none⟩ = some (.bool false)) (go_keep) ((go_at_call 38; go_must ((with_reducible refine (h38 _ (gb_drew hg5)).mono ?_); rintro e w6 ⟨rfl, hg6⟩; (have hg7 : w2.grownBy w6 none := gb_trans (gb_drew hg5) hg6); (have s0 := gb_cellN hg7 m0); (have s1 := gb_cellN hg7 m1); (have s2 := gb_cellN hg7 r0); (have s3 := gb_cellN hg7 r1); (have s4 := gb_cellN hg7 r2))))
      go_wp2
      obtain ⟨w0, rfl⟩ : ∃ w0, w0 = wr := ⟨_, rfl⟩
      go_loopw [6] (fun x W => ∃ j : Nat, j ≤ fs.length ∧ x = .int .i64 j ∧ w2.grownBy W none) (fun x _ => fs.length - (intOf x).toNat)
      case atStart => exact ⟨0, by omega, rfl, by first | exact hg7 | exact gb_drew hg7⟩
      case round =>
        obtain ⟨j, hj, rfl, hgJ⟩ := hrel
        have t1 := gb_cellN hgJ m1
        by_cases hjl : j < fs.length
        · obtain ⟨fj, hfj⟩ : ∃ f, fs[j]? = some f := ⟨_, List.getElem?_eq_getElem hjl⟩
          have d3 : decide ((j : Int) < (fs.length : Int)) = true := decide_eq_true (by omega)
          have hcJ := hcut.kept0 hgJ
          have hFJ := hFw.kept hgJ
          rcases hcJ with ⟨rfl, _⟩ | ⟨g5, c5, e5, hcJ⟩
          · simp at hjl
          injection e5 with e5 _ e6
          injection e5 with e5
          injection e5 with e5
          subst e5 e6
          obtain ⟨x0, x1, x2⟩ := hcJ j _ hfj
          rcases hFJ with ⟨rfl, _⟩ | ⟨g6, o6, c6, e6, hFJ⟩
          · simp at hjl
          injection e6 with e6 _ e7
          subst e6 e7
          obtain ⟨y0, y1, y2⟩ := hFJ j _ hfj
          go_wp2
          go_quiet (fail)
          go_wp2
          exact ⟨⟨j + 1, by omega, by simp, gb_drewN hgJ _⟩, by simp [intOf]; omega⟩
        · obtain rfl : j = fs.length := by omega
          have d3 : decide ((fs.length : Int) < (fs.length : Int)) = false := decide_eq_false (by omega)
          go_wp2
          refine ⟨⟨k + 1, by omega, by omega, by simp, gb_trans hg (gb_trans hg2 hgJ)⟩, by simp [intOf]; omega⟩
    · rcases Nat.lt_or_ge k gs.length with h1 | h1
      · have d1 : decide ((k : Int) < (gs.length : Int)) = true := decide_eq_true (by omega)
        have d2 : decide ((k : Int) < 200) = false := decide_eq_false (by omega)
        go_wp2_with (go_at_call 24; go_must ((with_reducible refine (h24 _ hg).mono ?_); rintro e w7 ⟨rfl, hg7⟩))
        go_ret
        exact ⟨rfl, gb_trans hg hg7⟩
      · have d1 : decide ((k : Int) < (gs.length : Int)) = false := decide_eq_false (by omega)
        go_wp2_with (go_at_call 24; go_must ((with_reducible refine (h24 _ hg).mono ?_); rintro e w7 ⟨rfl, hg7⟩))
        go_ret
        exact ⟨rfl, gb_trans hg hg7⟩
end Go.Proofs.YtobegepebochkaaGreatDoor
