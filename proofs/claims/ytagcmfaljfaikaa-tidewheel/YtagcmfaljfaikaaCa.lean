/-
  TideWheel: two wheels, the document's and the program's, and a Book: what lies where.
-/
import Derived.Test.YtagcmfaljfaikaaBi
namespace Go.Proofs.Ytagcmfaljfaikaa
open Go.RowKit
set_option linter.unusedVariables false

theorem nodup_of_one {l : List En} (hs : l.Pairwise (fun a b => a.t < b.t)) : l.Nodup := hs.imp (fun h e => by rw [e] at h; omega)
theorem Wh.count {w : World} {wb : Nat} {F : Nat → Prop} {l : List En} {sets n : Nat} (h : Wh w wb F (fun y => y ∈ l) sets n) (hs : l.Pairwise (fun a b => a.t < b.t)) : n = l.length := by
  obtain ⟨rv, mb, r, m, _, h2, _⟩ := h
  have hn : ((List.range n).map r).Nodup := by
    rw [List.nodup_iff_pairwise_ne, List.pairwise_map]
    refine (List.nodup_range (n := n)).imp_of_mem (fun {a b} ha hb hab e => hab ?_)
    rw [List.mem_range] at ha hb
    exact h2.img.one a b ha hb (by rw [e])
  have hp : ((List.range n).map r).Perm l := (List.perm_ext_iff_of_nodup hn (nodup_of_one hs)).2 (fun y => by
    rw [List.mem_map]
    constructor
    · rintro ⟨i, hi, rfl⟩; exact h2.img.inn i (List.mem_range.1 hi)
    · intro hy; obtain ⟨i, hi, e⟩ := h2.img.all y hy; exact ⟨i, List.mem_range.2 hi, e⟩)
  have := hp.length_eq
  simpa using this

/-- A wheel of the program's and one of the document's that hold the same. -/
structure Pr (w : World) (wb rb : Nat) (F G : Nat → Prop) (l : List En) (sets : Nat) : Prop where
  wh : Wh w wb F (fun y => y ∈ l) sets l.length
  rw_ : ∃ lv, Rw w rb G lv l
  srt : l.Pairwise (fun a b => a.t < b.t)
  one : ∀ x y, x ∈ l → y ∈ l → x.h = y.h → x = y
  hh : ∀ y, y ∈ l → isH y.h
  tl : ∀ y, y ∈ l → y.t ≤ sets
  len : l.length ≤ sets
theorem Pr.fl {w : World} {wb rb : Nat} {F G : Nat → Prop} {l : List En} {sets : Nat} (h : Pr w wb rb F G l sets) : (∀ k, F k → k < w.heap.size) ∧ ∀ k, G k → k < w.heap.size := ⟨h.wh.fl, let ⟨_, r⟩ := h.rw_; r.fl⟩
theorem Pr.kept {w w' : World} {wb rb : Nat} {F G H : Nat → Prop} {l : List En} {sets : Nat} (h : Pr w wb rb F G l sets) (hf : Kp H w w') (h1 : ∀ k, F k → ¬ H k) (h2 : ∀ k, G k → ¬ H k) : Pr w' wb rb F G l sets :=
  ⟨h.wh.kept hf h1, let ⟨lv, r⟩ := h.rw_; ⟨lv, r.kept hf h2⟩, h.srt, h.one, h.hh, h.tl, h.len⟩
theorem Pr.kept0 {w w' : World} {wb rb : Nat} {F G : Nat → Prop} {l : List En} {sets : Nat} (h : Pr w wb rb F G l sets) (hf : w.grownBy w' none) : Pr w' wb rb F G l sets :=
  ⟨h.wh.kept0 hf, let ⟨lv, r⟩ := h.rw_; ⟨lv, r.kept0 hf⟩, h.srt, h.one, h.hh, h.tl, h.len⟩

theorem dis_upd {P : Nat → Nat → Prop} {sz a : Nat} {Q : Nat → Prop} (hd : ∀ a b k, P a k → P b k → a = b) (hl : ∀ a k, P a k → k < sz) (hQ : ∀ k, Q k → P a k ∨ sz ≤ k) : ∀ b c k, upd P a Q b k → upd P a Q c k → b = c := by
  intro b c k h1 h2
  by_cases hb : b = a
  · by_cases hc : c = a
    · rw [hb, hc]
    · rw [hb, upd_same] at h1
      rw [upd_other _ _ hc] at h2
      rcases hQ k h1 with h3 | h3
      · rw [hb]; exact hd a c k h3 h2
      · have := hl c k h2; omega
  · rw [upd_other _ _ hb] at h1
    by_cases hc : c = a
    · rw [hc, upd_same] at h2
      rcases hQ k h2 with h3 | h3
      · rw [hc]; exact hd b a k h1 h3
      · have := hl b k h1; omega
    · rw [upd_other _ _ hc] at h2
      exact hd b c k h1 h2

/-- The law's world: P j are the blocks of wheel j, P (2 + j) those of the document's, P 4 the Book's, P 5 the struct's own. -/
structure Ws (w : World) (B : Nat) (tb bb : Nat) (wb rb : Nat → Nat) (P : Nat → Nat → Prop) (l : Nat → List En) (sets : Nat → Nat) (N K : Nat) : Prop where
  box : Box w 63 tb #[.pointer (some ⟨wb 0, 0, none⟩), .pointer (some ⟨wb 1, 0, none⟩), .pointer (some ⟨rb 0, 0, none⟩), .pointer (some ⟨rb 1, 0, none⟩), .pointer (some ⟨bb, 0, none⟩)]
  pr : ∀ j, j < 2 → Pr w (wb j) (rb j) (P j) (P (2 + j)) (l j) (sets j)
  bk : ∃ hv wv n V W D, Bk w bb (P 4) hv wv n K V W D
  p5 : P 5 tb
  dis : ∀ a b k, P a k → P b k → a = b
  fl : ∀ a k, P a k → k < w.heap.size
  lo : ∀ a k, P a k → B ≤ k
  big : ∀ j, j < 2 → sets j ≤ N
  kn : K ≤ 2 * N
  hB : B ≤ w.heap.size

section
variable {w w' : World} {B tb bb : Nat} {wb rb : Nat → Nat} {P : Nat → Nat → Prop} {l : Nat → List En} {sets : Nat → Nat} {N K : Nat}
theorem Ws.kept0 (h : Ws w B tb bb wb rb P l sets N K) (hf : w.grownBy w' none) : Ws w' B tb bb wb rb P l sets N K :=
  ⟨h.box.kept hf (by simp), fun j hj => (h.pr j hj).kept0 hf, let ⟨hv, wv, n, V, W, D, b⟩ := h.bk; ⟨hv, wv, n, V, W, D, b.kept0 hf⟩, h.p5, h.dis, fun a k hk => Nat.lt_of_lt_of_le (h.fl a k hk) hf.size, h.lo, h.big, h.kn, Nat.le_trans h.hB hf.size⟩
theorem Ws.more (h : Ws w B tb bb wb rb P l sets N K) {N' : Nat} (hN : N ≤ N') : Ws w B tb bb wb rb P l sets N' K :=
  ⟨h.box, h.pr, h.bk, h.p5, h.dis, h.fl, h.lo, fun j hj => Nat.le_trans (h.big j hj) hN, by have := h.kn; omega, h.hB⟩
/-- The program's wheel j and the document's have turned. -/
theorem Ws.turn (h : Ws w B tb bb wb rb P l sets N K) {j : Nat} (hj : j < 2) {F G : Nat → Prop} {l' : List En} {s' : Nat} (hk : Kp (fun k => P j k ∨ P (2 + j) k) w w') (hF : ∀ k, F k → P j k ∨ w.heap.size ≤ k) (hG : ∀ k, G k → P (2 + j) k ∨ w.heap.size ≤ k) (hFG : ∀ k, F k → ¬ G k) (hp : Pr w' (wb j) (rb j) F G l' s') (hs : s' ≤ N + 1) :
    Ws w' B tb bb wb rb (upd (upd P j F) (2 + j) G) (upd l j l') (upd sets j s') (N + 1) K := by
  have h4 : ∀ {a}, a ≠ j → a ≠ 2 + j → upd (upd P j F) (2 + j) G a = P a := fun h1 h2 => by rw [upd_other _ _ h2, upd_other _ _ h1]
  have hno : ∀ a, a ≠ j → a ≠ 2 + j → ∀ k, P a k → ¬ (P j k ∨ P (2 + j) k) := fun a h1 h2 k hk hx => hx.elim (fun e => h1 (h.dis a j k hk e)) (fun e => h2 (h.dis a (2 + j) k hk e))
  obtain ⟨hFl, hGl⟩ := hp.fl
  refine ⟨?_, fun i hi => ?_, ?_, ?_, ?_, ?_, ?_, fun i hi => ?_, by have := h.kn; omega, Nat.le_trans h.hB hk.size⟩
  · unfold Box; rw [hk.block tb (h.fl 5 tb h.p5) (hno 5 (by omega) (by omega) tb h.p5)]; exact h.box
  · by_cases e : i = j
    · subst e
      rw [upd_same, upd_same, upd_same, upd_other _ _ (by omega), upd_same]
      exact hp
    · rw [upd_other l _ e, upd_other sets _ e, h4 e (by omega), h4 (by omega) (by omega)]
      exact (h.pr i hi).kept hk (hno i e (by omega)) (hno (2 + i) (by omega) (by omega))
  · obtain ⟨hv, wv, n, V, W, D, b⟩ := h.bk
    rw [h4 (by omega) (by omega)]
    exact ⟨hv, wv, n, V, W, D, b.kept hk (hno 4 (by omega) (by omega))⟩
  · rw [h4 (by omega) (by omega)]; exact h.p5
  · intro a b k h1 h2
    have lem : ∀ a, upd (upd P j F) (2 + j) G a k → (a = 2 + j ∧ G k) ∨ (a = j ∧ F k) ∨ (a ≠ j ∧ a ≠ 2 + j ∧ P a k) := fun a ha => by
      by_cases e1 : a = 2 + j
      · subst e1; rw [upd_same] at ha; exact .inl ⟨rfl, ha⟩
      · rw [upd_other _ _ e1] at ha
        by_cases e2 : a = j
        · subst e2; rw [upd_same] at ha; exact .inr (.inl ⟨rfl, ha⟩)
        · rw [upd_other _ _ e2] at ha; exact .inr (.inr ⟨e2, e1, ha⟩)
    rcases lem a h1 with ⟨e1, g1⟩ | ⟨e1, g1⟩ | ⟨e1, e1', g1⟩ <;> rcases lem b h2 with ⟨e2, g2⟩ | ⟨e2, g2⟩ | ⟨e2, e2', g2⟩
    · omega
    · exact absurd g1 (hFG k g2)
    · rcases hG k g1 with g3 | g3
      · exact absurd (h.dis b (2 + j) k g2 g3) e2'
      · have := h.fl b k g2; omega
    · exact absurd g2 (hFG k g1)
    · omega
    · rcases hF k g1 with g3 | g3
      · exact absurd (h.dis b j k g2 g3) e2
      · have := h.fl b k g2; omega
    · rcases hG k g2 with g3 | g3
      · exact absurd (h.dis a (2 + j) k g1 g3) e1'
      · have := h.fl a k g1; omega
    · rcases hF k g2 with g3 | g3
      · exact absurd (h.dis a j k g1 g3) e1
      · have := h.fl a k g1; omega
    · exact h.dis a b k g1 g2
  · intro a k ha
    have hsz := hk.size
    by_cases e1 : a = 2 + j
    · subst e1; rw [upd_same] at ha; exact hGl k ha
    · rw [upd_other _ _ e1] at ha
      by_cases e2 : a = j
      · subst e2; rw [upd_same] at ha; exact hFl k ha
      · rw [upd_other _ _ e2] at ha; have := h.fl a k ha; omega
  · intro a k ha
    have hB := h.hB
    by_cases e1 : a = 2 + j
    · subst e1; rw [upd_same] at ha
      rcases hG k ha with g | g
      · exact h.lo _ k g
      · omega
    · rw [upd_other _ _ e1] at ha
      by_cases e2 : a = j
      · subst e2; rw [upd_same] at ha
        rcases hF k ha with g | g
        · exact h.lo _ k g
        · omega
      · rw [upd_other _ _ e2] at ha; exact h.lo a k ha
  · by_cases e : i = j
    · subst e; rw [upd_same]; exact hs
    · rw [upd_other _ _ e]; have := h.big i hi; omega
/-- The Book has taken something in. -/
theorem Ws.book (h : Ws w B tb bb wb rb P l sets N K) {C : Nat} (hC : ∀ a k, P a k → k < C) (hBC : B ≤ C) {FB : Nat → Prop} {K' : Nat} (hk : Kp (fun k => P 4 k ∨ C ≤ k) w w') (hF : ∀ k, FB k → P 4 k ∨ C ≤ k) (hb : ∃ hv wv n V W D, Bk w' bb FB hv wv n K' V W D) {N' : Nat} (hK : K' ≤ 2 * N') (hN : N ≤ N') : Ws w' B tb bb wb rb (upd P 4 FB) l sets N' K' := by
  have h4 : ∀ {a}, a ≠ 4 → upd P 4 FB a = P a := fun h1 => upd_other _ _ h1
  have hno : ∀ a, a ≠ 4 → ∀ k, P a k → ¬ (P 4 k ∨ C ≤ k) := fun a h1 k hk hx => hx.elim (fun hx => h1 (h.dis a 4 k hk hx)) (fun hx => by have := hC a k hk; omega)
  have hfl : ∀ k, FB k → k < w'.heap.size := by obtain ⟨_, _, _, _, _, _, b⟩ := hb; exact b.fl
  refine ⟨?_, fun i hi => ?_, ?_, ?_, dis_upd h.dis hC hF, ?_, ?_, fun i hi => Nat.le_trans (h.big i hi) hN, hK, Nat.le_trans h.hB hk.size⟩
  · unfold Box; rw [hk.block tb (h.fl 5 tb h.p5) (hno 5 (by omega) tb h.p5)]; exact h.box
  · rw [h4 (by omega), h4 (by omega)]
    exact (h.pr i hi).kept hk (hno i (by omega)) (hno (2 + i) (by omega))
  · rw [upd_same]; exact hb
  · rw [h4 (by omega)]; exact h.p5
  · intro a k ha
    have hsz := hk.size
    by_cases e : a = 4
    · subst e; rw [upd_same] at ha; exact hfl k ha
    · rw [h4 e] at ha; have := h.fl a k ha; omega
  · intro a k ha
    by_cases e : a = 4
    · subst e; rw [upd_same] at ha
      rcases hF k ha with g | g
      · exact h.lo _ k g
      · omega
    · rw [h4 e] at ha; exact h.lo a k ha
end

end Go.Proofs.Ytagcmfaljfaikaa
