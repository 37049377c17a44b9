/-
  Drop.
-/
import Derived.Test.YtphhofbdekbggaaTf
namespace Go.Proofs.Ytphhofbdekbggaa
open Go.RowKit
set_option linter.unusedVariables false
set_option linter.unusedSimpArgs false

theorem row_lo {w : World} {B e s g n c : Nat} {xs : List Value} (h : w.ownsRow B e s (.slice (some ⟨g, 0, none⟩) n c) n xs) : B ≤ g := by
  obtain ⟨_, h | ⟨a, cap, cells, hv, hB, _⟩⟩ := h
  · simp at h
  · simp only [Value.slice.injEq, Option.some.injEq, Addr.mk.injEq] at hv
    omega
theorem asc_pw {L : List Sv} : Asc L ↔ L.Pairwise (fun p q => p.1.toList < q.1.toList) := by
  rw [List.pairwise_iff_getElem]
  constructor
  · intro h i j hi hj hij
    have := h i j hij hj
    rwa [sat_eq L i hi, sat_eq L j hj] at this
  · intro h i j hij hj
    rw [sat_eq L i (by omega), sat_eq L j hj]
    exact h i j (by omega) hj hij
theorem del_sub (L : List Sv) (i : Nat) : (delL L i).Sublist L := by
  unfold delL
  have h : (L.take i ++ L.drop i) = L := List.take_append_drop i L
  have h2 : (L.take i ++ L.drop (i + 1)).Sublist (L.take i ++ L.drop i) := by
    refine List.Sublist.append (List.Sublist.refl _) ?_
    rw [← List.drop_drop]
    exact List.drop_sublist _ _
  rwa [h] at h2
theorem del_len (L : List Sv) (i : Nat) (h : i < L.length) : (delL L i).length = L.length - 1 := by
  unfold delL
  rw [List.length_append, List.length_take, List.length_drop]
  omega
theorem del_perm (L : List Sv) (i : Nat) (h : i < L.length) : (sat L i :: delL L i).Perm L := by
  unfold delL
  have h1 : (L.take i ++ sat L i :: L.drop (i + 1)).Perm (sat L i :: (L.take i ++ L.drop (i + 1))) := List.perm_middle
  have h2 : L.take i ++ sat L i :: L.drop (i + 1) = L := by
    rw [sat_eq L i h, ← List.drop_eq_getElem_cons h, List.take_append_drop]
  rw [h2] at h1
  exact h1.symm
theorem asc_del {L : List Sv} (h : Asc L) (i : Nat) : Asc (delL L i) := asc_pw.2 ((asc_pw.1 h).sublist (del_sub L i))
theorem ls_at {L : List Sv} {i j : Nat} (h : Asc L) (hi : i < L.length) (hl : Ls L (sat L i).1.toList j) : j = i := by
  rcases Nat.lt_trichotomy j i with e | e | e
  · exact absurd (h j i e hi) (hl.hi j (Nat.le_refl _) (by omega))
  · exact e
  · exact absurd (hl.lo i e) (List.lt_irrefl _)
theorem laid_rg {w : World} {a : Option Addr} {g n c : Nat} {L : List Sv} (h : SvAt w g L) (hn : L.length = n) (ha : 0 < n → a = some ⟨g, 0, none⟩) (hn2 : n ≤ 256) (hok : ∀ p ∈ L, svOk p = true) (hasc : Asc L) :
    Calls Try.prog 34 #[.slice a n c] w fun e w' => (∃ gp cp ps, e = .returned (.agg #[.slice a n c, .slice (some ⟨gp, 0, none⟩) ps.length cp]) ∧ Rg w' (.agg #[.slice a n c, .slice (some ⟨gp, 0, none⟩) ps.length cp]) L ps) ∧ w.grownBy w' none := by
  refine (laid_34 (c := c) h hn ha hn2 (fun i hi => hok _ (sat_mem L i (by omega)))).mono ?_
  rintro e w' ⟨⟨gp, cp, ps, rfl, _, p2, p3, p4⟩, hg⟩
  subst hn
  exact ⟨⟨gp, cp, ps, rfl, ⟨⟨a, g, c, gp, cp, rfl, ha, h.grown hg, p3⟩, p2, hn2, p4, hok, hasc⟩⟩, hg⟩
set_option maxRecDepth 100000 in
set_option maxHeartbeats 4000000 in
theorem drop_12 {w : World} {v : Value} {L : List Sv} {ps : List Pt} (h : RZ w v L ps) (i : Nat) (hi : i < L.length) :
    Calls Try.prog 12 #[v, .string (sat L i).1] w fun e w' => (∃ rv ps', e = .returned (.tuple #[rv, .int .i64 0]) ∧ Rg w' rv (delL L i) ps') ∧ w.grownBy w' none := by
  obtain ⟨a, g, c, x2, px, pc, gp, rfl, ha, hS, hA, hO, hl, hpl, rfl, hx, hP⟩ := h.parts
  have hf1 : w.grownBy ((w.alloc (.cells #[.slice a L.length c, .slice x2 px.length pc] 32)).alloc (.cells #[.slice none 0 0, .slice none 0 0] 32)) none := gb_alloc (gb_alloc (gb_refl _ _) _) _
  have hbr : Box (w.alloc (.cells #[.slice a L.length c, .slice x2 px.length pc] 32)) 32 w.heap.size #[.slice a L.length c, .slice x2 px.length pc] := Box.new _ _ _
  have hbr := hbr.kept (gb_alloc (gb_refl _ none) (.cells #[.slice none 0 0, .slice none 0 0] 32)) (by simp)
  have hb : Box ((w.alloc (.cells #[.slice a L.length c, .slice x2 px.length pc] 32)).alloc (.cells #[.slice none 0 0, .slice none 0 0] 32)) 32 (w.heap.size + 1) #[.slice none 0 0, .slice none 0 0] := by
    have := Box.new (w.alloc (.cells #[.slice a L.length c, .slice x2 px.length pc] 32)) 32 #[.slice none 0 0, .slice none 0 0]
    simpa using this
  have hS1 := hS.grown hf1
  have hz : ((w.alloc (.cells #[.slice a L.length c, .slice x2 px.length pc] 32)).alloc (.cells #[.slice none 0 0, .slice none 0 0] 32)).heap.size = w.heap.size + 2 := by simp
  have hza : (w.alloc (.cells #[.slice a L.length c, .slice x2 px.length pc] 32)).heap.size = w.heap.size + 1 := by simp
  have h33 : ∀ W', ((w.alloc (.cells #[.slice a L.length c, .slice x2 px.length pc] 32)).alloc (.cells #[.slice none 0 0, .slice none 0 0] 32)).grownBy W' none → Calls Try.prog 33 #[.agg #[.slice a L.length c, .slice x2 px.length pc], .string (sat L i).1] W' fun e w' => e = .returned (.tuple #[.int .i64 i, .bool true]) ∧ W'.grownBy w' none := fun W' hW' => by
    refine (find_33 (c := c) (x2 := x2) (x3 := px.length) (x4 := pc) (t := (sat L i).1) rfl (by omega) ha (hS1.grown hW') hA).mono ?_
    rintro e w' ⟨⟨j, rfl, hj⟩, hg⟩
    obtain rfl := ls_at hA hi hj
    exact ⟨by simp [isAt, hi], hg⟩
  generalize hnn : L.length = n at *
  obtain rfl := ha (by omega)
  have h32 : ∀ W', ((w.alloc (.cells #[.slice (some ⟨g, 0, none⟩) n c, .slice x2 px.length pc] 32)).alloc (.cells #[.slice none 0 0, .slice none 0 0] 32)).grownBy W' none → Calls Try.prog 32 #[.slice (some ⟨g, 0, none⟩) n c] W' fun e w' => (∃ g' c', e = .returned (.slice (some ⟨g', 0, none⟩) n c') ∧ W'.heap.size ≤ g' ∧ w'.ownsRow W'.heap.size 26 2 (.slice (some ⟨g', 0, none⟩) n c') n (flatS L)) ∧ W'.grownBy w' none := fun W' hW' => by
    refine (clone_32p (c := c) (hS1.grown hW') hnn (by omega) (by omega)).mono ?_
    rintro e w' ⟨⟨g', c', rfl, hr⟩, hg⟩
    exact ⟨⟨g', c', rfl, row_lo hr, hr⟩, hg⟩
  have h34 : ∀ (W' : World) (b' c' : Nat), SvAt W' b' (delL L i) → Calls Try.prog 34 #[.slice (some ⟨b', 0, none⟩) (n - 1) c'] W' fun e w' => (∃ gp cp ps, e = .returned (.agg #[.slice (some ⟨b', 0, none⟩) (n - 1) c', .slice (some ⟨gp, 0, none⟩) ps.length cp]) ∧ Rg w' (.agg #[.slice (some ⟨b', 0, none⟩) (n - 1) c', .slice (some ⟨gp, 0, none⟩) ps.length cp]) (delL L i) ps) ∧ W'.grownBy w' none := fun W' b' c' hs' =>
    laid_rg hs' (by rw [del_len L i (by omega)]; omega) (fun _ => rfl) (by omega) (fun p hp => hO p ((del_sub L i).subset hp)) (asc_del hA i)
  have hiw : IntKind.i64.wrap ((i : Int) + 1) = ((i + 1 : Nat) : Int) := by rw [IntKind.wrap_i64]; omega
  generalize hW : (w.alloc (.cells #[.slice (some ⟨g, 0, none⟩) n c, .slice x2 px.length pc] 32)).alloc (.cells #[.slice none 0 0, .slice none 0 0] 32) = W at *
  have d0 := hbr.cell 0
  have d1 := hbr.cell 1
  simp only [List.getElem?_toArray, List.getElem?_cons_succ, List.getElem?_cons_zero] at d0 d1
  clear hS hS1 hP h hx hO hA ha hpl
  go_enter Try.func12, Try.ntmps12
  go_wp2_with (first
    | (go_at_call 33; go_must (refine (h33 _ (gb_refl _ _)).mono ?_); rintro y w2 ⟨rfl, hg2⟩; (have hbr2 := hbr.kept hg2 (by simp)); (have d0 := hbr2.cell 0); simp only [List.getElem?_toArray, List.getElem?_cons_succ, List.getElem?_cons_zero] at d0)
    | (go_at_call 32; go_must (refine (h32 _ hg2).mono ?_); rintro y w3 ⟨⟨g3, c3, rfl, hb3, hr3⟩, hg3⟩; (have h35 := delete_35 hr3 hnn hi (by omega)))
    | (go_at_call 35; go_must (refine h35.mono ?_); rintro y w4 ⟨rfl, hS4, hg4⟩; (have hg4' := gb_far hg3 hg4 (B := w2.heap.size) (fun i e => by cases e; exact hb3) (Nat.le_refl _)))
    | (go_at_call 34; go_must (refine (h34 _ _ _ hS4).mono ?_); rintro y w5 ⟨⟨gp5, cp5, ps5, rfl, hR5⟩, hg5⟩; (have hgx := gb_trans (gb_trans hg2 hg4') hg5); (have hb2 := hb.kept hgx (by simp)); (have d0 := hb2.cell 0); (have d1 := hb2.cell 1); (have z0 := hb2.fz 0); (have z1 := hb2.fz 1); simp only [List.getElem?_toArray, List.getElem?_cons_succ, List.getElem?_cons_zero] at d0 d1) | fail)
  have e1 := ((hb2.set 0 (.slice (some ⟨g3, 0, none⟩) (n - 1) c3)).set 1 (.slice (some ⟨gp5, 0, none⟩) ps5.length cp5)).cell 1
  have e0 := ((hb2.set 0 (.slice (some ⟨g3, 0, none⟩) (n - 1) c3)).set 1 (.slice (some ⟨gp5, 0, none⟩) ps5.length cp5)).cell 0
  have f1 := (hb2.set 0 (.slice (some ⟨g3, 0, none⟩) (n - 1) c3)).cell 1
  simp at e0 e1 f1
  have hgy : w.grownBy ((w5.setCell ⟨w.heap.size + 1, 0, none⟩ (.slice (some ⟨g3, 0, none⟩) (n - 1) c3)).setCell ⟨w.heap.size + 1, 1, none⟩ (.slice (some ⟨gp5, 0, none⟩) ps5.length cp5)) none := gb_far (gb_trans hf1 hgx) (gb_setCell (gb_setCell (gb_refl w5 (some (w.heap.size + 1))) _) _) (B := w.heap.size) (fun i e => by cases e; exact Nat.le_succ _) (Nat.le_refl _)
  exact bodyPost_ret (v := .tuple #[.agg #[.slice (some ⟨g3, 0, none⟩) (n - 1) c3, .slice (some ⟨gp5, 0, none⟩) ps5.length cp5], .int .i64 0]) (by simp [results, Try.results12, go_sem, e0, e1]) rfl ⟨⟨_, ps5, rfl, (hR5.setS d0 _).setS f1 _⟩, hgy⟩
end Go.Proofs.Ytphhofbdekbggaa
