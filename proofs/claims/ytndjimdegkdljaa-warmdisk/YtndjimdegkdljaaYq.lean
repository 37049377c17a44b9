import Derived.Test.YtndjimdegkdljaaYl
import Derived.Test.YtndjimdegkdljaaYm
import Derived.Test.YtndjimdegkdljaaYn
import Derived.Test.YtndjimdegkdljaaYf
import Derived.Test.YtndjimdegkdljaaMd
import Derived.Test.YtndjimdegkdljaaZj
import Derived.Test.YtndjimdegkdljaaZo
/-
  Two disks side by side, whatever else lies beside them; the calls of an act.
-/
namespace Go.Proofs.Ytndjimdegkdljaa
open Go.RowKit Go.MapKept
set_option linter.unusedVariables false
set_option linter.unusedSimpArgs false

/-! ### How many names there are, and bytes -/
theorem rep_after {L : List (Bs × Nat)} {m : NS} (h : Rep L m) (l : List Ch) : ∃ L', Rep L' (after m l) ∧ L'.length ≤ L.length + l.length := by
  refine snoc_ind (P := fun l => ∃ L', Rep L' (after m l) ∧ L'.length ≤ L.length + l.length) ⟨L, h, by simp⟩ ?_ l
  rintro l c ⟨L', h1, h2⟩
  rw [after_snoc, List.length_append]
  by_cases hc : c.nw = []
  · exact ⟨_, h1.app c hc, by have := List.length_filter_le (fun p : Bs × Nat => p.1 ≠ c.fr) L'; simp only [List.length_singleton]; omega⟩
  · refine ⟨_, h1.app' c hc, ?_⟩
    have e1 := List.length_filter_le (fun p : Bs × Nat => p.1 ≠ c.fr) L'
    have e2 := List.length_filter_le (fun p : Bs × Nat => p.1 ≠ c.nw) (L'.filter (fun p => p.1 ≠ c.fr))
    rw [List.length_append]
    simp only [List.length_singleton]
    omega
theorem RR.rep {w : World} {q : Rl} {M : Md} (h : RR w q M) : ∃ L, Rep L M.names ∧ L.length ≤ M.acts := by
  obtain ⟨L, -, h2, h3⟩ := h.sf
  obtain ⟨L', h4, h5⟩ := rep_after h2 M.ch
  exact ⟨L', h4, by omega⟩
theorem Md.Ok.len {M : Md} (h : M.Ok) (k : Nat) : (M.file k).1.length ≤ M.acts * 2097152 := by
  by_cases hk : k < M.files.length
  · exact h.nb _ (List.mem_of_getElem? (file_some hk))
  · unfold Md.file
    rw [List.getElem?_eq_none (by omega)]
    simp
theorem Md.Ok.len9 {M : Md} (h : M.Ok) (ha : M.acts ≤ 400) (k : Nat) : (M.file k).1.length ≤ 900000000 := by
  have := h.len k
  have := Nat.mul_le_mul_right 2097152 ha
  omega
theorem sum_le {α : Type} (f : α → Nat) (B : Nat) : ∀ L : List α, (∀ x ∈ L, f x ≤ B) → (L.map f).sum ≤ L.length * B
  | [], _ => by simp
  | x :: L, h => by
    have h1 := h x (by simp)
    have h2 := sum_le f B L (fun y hy => h y (by simp [hy]))
    simp only [List.map_cons, List.sum_cons, List.length_cons, Nat.add_mul, Nat.one_mul]
    omega
theorem sumL_bd {M : Md} {L : List (Bs × Nat)} (h : M.Ok) (ha : M.acts ≤ 400) (hl : L.length ≤ M.acts) : sumL M L ≤ 1000000000000 := by
  have h1 : sumL M L ≤ L.length * 900000000 := sum_le _ _ L (fun x _ => h.len9 ha x.2)
  have h2 := Nat.mul_le_mul_right 900000000 (Nat.le_trans hl ha)
  omega

/-! ### The two disks -/
structure Dz (w : World) (p : Pl) (q : Rl) (M N : Md) : Prop where
  rp : RP w p M
  rr : RR w q N
  dis : ∀ b, p.col b ≠ 0 → q.col b = 0
/-- Block b is one of the two disks'. -/
def Both (p : Pl) (q : Rl) (b : Nat) : Prop := p.col b ≠ 0 ∨ q.col b ≠ 0
theorem Dz.gb {w w' : World} {p : Pl} {q : Rl} {M N : Md} (h : Dz w p q M N) (g : w.grownBy w' none) : Dz w' p q M N := ⟨h.rp.gb g, h.rr.gb g, h.dis⟩
theorem Dz.lt {w : World} {p : Pl} {q : Rl} {M N : Md} (h : Dz w p q M N) {b : Nat} (hb : Both p q b) : b < w.heap.size := by
  rcases hb with hb | hb
  · exact h.rp.lt b hb
  · exact h.rr.lt b hb
theorem Dz.kp {w w' : World} {p : Pl} {q : Rl} {M N : Md} (h : Dz w p q M N) {F : Nat → Prop} (g : Kp F w w') (hF : ∀ b, Both p q b → ¬ F b) : Dz w' p q M N :=
  ⟨h.rp.kp g (fun b hb => hF b (.inl hb)), h.rr.kp g (fun b hb => hF b (.inr hb)), h.dis⟩
/-- Since w0 only blocks of G, and new ones, have turned; the two disks (at M and N) have no other. -/
def Dv (w0 w : World) (G : Nat → Prop) (d r : Nat) (M N : Md) : Prop :=
  ∃ p q, p.d = d ∧ q.d = r ∧ Dz w p q M N ∧ Kp G w0 w ∧ ∀ b, b < w0.heap.size → ¬ G b → p.col b = 0 ∧ q.col b = 0
theorem Dv.start {w : World} {p : Pl} {q : Rl} {M N : Md} (h : Dz w p q M N) : Dv w w (Both p q) p.d q.d M N :=
  ⟨p, q, rfl, rfl, h, Kp.refl _ _, fun b _ hb => ⟨by by_cases hc : p.col b = 0; exact hc; exact absurd (.inl hc) hb, by by_cases hc : q.col b = 0; exact hc; exact absurd (.inr hc) hb⟩⟩
theorem Dv.more {w0 w w' : World} {G : Nat → Prop} {d r : Nat} {M N : Md} (h : Dv w0 w G d r M N) (g : w.grownBy w' none) : Dv w0 w' G d r M N := by
  obtain ⟨p, q, h1, h2, h3, h4, h5⟩ := h
  exact ⟨p, q, h1, h2, h3.gb g, h4.step g (by simp), h5⟩
theorem Dv.kpp {w0 w : World} {G : Nat → Prop} {d r : Nat} {M N : Md} (h : Dv w0 w G d r M N) : Kp G w0 w := by
  obtain ⟨p, q, _, _, _, h, _⟩ := h; exact h
theorem Dv.prog {w0 w w' : World} {G : Nat → Prop} {p p' : Pl} {q : Rl} {M M' N : Md} (h3 : Dz w p q M N) (h4 : Kp G w0 w) (h5 : ∀ b, b < w0.heap.size → ¬ G b → p.col b = 0 ∧ q.col b = 0) (hp : RP w' p' M') (ha : Aft w w' p p') : Dv w0 w' G p.d q.d M' N :=
  ⟨p', q, ha.d, rfl, ⟨hp, h3.rr.kp ha.kp (fun b hb hc => hb (h3.dis b hc)), fun b hb => by
    rcases Nat.lt_or_ge b w.heap.size with hl | hl
    · exact h3.dis b (ha.col b hl hb)
    · by_cases hc : q.col b = 0
      · exact hc
      · have := h3.rr.lt b hc; omega⟩, h4.trans ha.kp (fun _ h => h) (fun b hb => by
    rcases Nat.lt_or_ge b w0.heap.size with hl | hl
    · by_cases hG : G b
      · exact .inl hG
      · exact absurd (h5 b hl hG).1 hb
    · exact .inr hl), fun b hb hG => ⟨by
    by_cases hc : p'.col b = 0
    · exact hc
    · exact absurd (h5 b hb hG).1 (ha.col b (Nat.lt_of_lt_of_le hb h4.size) hc), (h5 b hb hG).2⟩⟩
theorem Dv.doc {w0 w w' : World} {G : Nat → Prop} {p : Pl} {q q' : Rl} {M N N' : Md} (h3 : Dz w p q M N) (h4 : Kp G w0 w) (h5 : ∀ b, b < w0.heap.size → ¬ G b → p.col b = 0 ∧ q.col b = 0) (hq : RR w' q' N') (ha : Afr w w' q q') : Dv w0 w' G p.d q.d M N' :=
  ⟨p, q', rfl, ha.d, ⟨h3.rp.kp ha.kp (fun b hb hc => hc (h3.dis b hb)), hq, fun b hb => by
    by_cases hc : q'.col b = 0
    · exact hc
    · exact absurd (h3.dis b hb) (ha.col b (h3.rp.lt b hb) hc)⟩, h4.trans ha.kp (fun _ h => h) (fun b hb => by
    rcases Nat.lt_or_ge b w0.heap.size with hl | hl
    · by_cases hG : G b
      · exact .inl hG
      · exact absurd (h5 b hl hG).2 hb
    · exact .inr hl), fun b hb hG => ⟨(h5 b hb hG).1, by
    by_cases hc : q'.col b = 0
    · exact hc
    · exact absurd (h5 b hb hG).2 (ha.col b (Nat.lt_of_lt_of_le hb h4.size) hc)⟩⟩
/-- A call of the program's disk. -/
theorem Dv.callP {w0 w : World} {G : Nat → Prop} {d r : Nat} {M M' N : Md} {n : Nat} {av : Array Value} {A : Ending → World → Prop} (h : Dv w0 w G d r M N)
    (hc : ∀ p, p.d = d → RP w p M → Calls Try.prog n av w fun e w' => A e w' ∧ ∃ p', RP w' p' M' ∧ Aft w w' p p') :
    Calls Try.prog n av w fun e w' => A e w' ∧ Dv w0 w' G d r M' N ∧ Kx w w' := by
  obtain ⟨p, q, rfl, rfl, h3, h4, h5⟩ := h
  obtain ⟨p2, a0, a1, a2, a3⟩ := h3.rp.min
  have h3' : Dz w p2 q M N := ⟨a1, h3.rr, fun b hb => h3.dis b (a2 b hb)⟩
  have h5' : ∀ b, b < w0.heap.size → ¬ G b → p2.col b = 0 ∧ q.col b = 0 := fun b hb hG => ⟨by
    by_cases hc : p2.col b = 0
    · exact hc
    · exact absurd (h5 b hb hG).1 (a2 b hc), (h5 b hb hG).2⟩
  refine (hc p2 a0 a1).mono ?_
  rintro e w' ⟨hA, p', hp, ha⟩
  rw [← a0]
  exact ⟨hA, Dv.prog h3' h4 h5' hp ha, fun b cur t fr hb ht => ha.kp.block b (lt_of_block hb) (fun hn => hn (a3 b cur t fr hb ht))⟩
/-- A call of the document's. -/
theorem Dv.callR {w0 w : World} {G : Nat → Prop} {d r : Nat} {M N N' : Md} {n : Nat} {av : Array Value} {A : Ending → World → Prop} (h : Dv w0 w G d r M N)
    (hc : ∀ q, q.d = r → RR w q N → (∀ b, b < w0.heap.size → ¬ G b → q.col b = 0) → Calls Try.prog n av w fun e w' => A e w' ∧ ∃ q', RR w' q' N' ∧ Afr w w' q q') :
    Calls Try.prog n av w fun e w' => A e w' ∧ Dv w0 w' G d r M N' ∧ Kx w w' := by
  obtain ⟨p, q, rfl, rfl, h3, h4, h5⟩ := h
  obtain ⟨q2, a0, a1, a2, a3⟩ := h3.rr.min
  have h3' : Dz w p q2 M N := ⟨h3.rp, a1, fun b hb => by
    by_cases hc : q2.col b = 0
    · exact hc
    · exact absurd (h3.dis b hb) (a2 b hc)⟩
  have h5' : ∀ b, b < w0.heap.size → ¬ G b → p.col b = 0 ∧ q2.col b = 0 := fun b hb hG => ⟨(h5 b hb hG).1, by
    by_cases hc : q2.col b = 0
    · exact hc
    · exact absurd (h5 b hb hG).2 (a2 b hc)⟩
  refine (hc q2 a0 a1 (fun b hb hG => (h5' b hb hG).2)).mono ?_
  rintro e w' ⟨hA, q', hq, ha⟩
  rw [← a0]
  exact ⟨hA, Dv.doc h3' h4 h5' hq ha, fun b cur t fr hb ht => ha.kp.block b (lt_of_block hb) (fun hn => hn (a3 b cur t fr hb ht))⟩
/-- What came in has no colour. -/
def cz (z : Nat) (p : Pl) (q : Rl) (b : Nat) : Nat := if b < z then p.col b + q.col b else 1
theorem cz_zero {z : Nat} {p : Pl} {q : Rl} {b : Nat} (h : cz z p q b = 0) : b < z ∧ ¬ Both p q b := by
  unfold cz at h
  split at h
  · next hb => exact ⟨hb, by rintro (h1 | h1) <;> omega⟩
  · omega
theorem Hin.dv {w w' : World} {p : Pl} {q : Rl} {v : Value} {n sz : Nat} {xs : List Value} (h : Hin w (cz w.heap.size p q) v n sz xs) (k : Kp (Both p q) w w') : Hin w' (cz w.heap.size p q) v n sz xs :=
  h.keep (fun b hb hc => k.block b hb (cz_zero hc).2) k.size
theorem Hin.dq {w w' : World} {p : Pl} {q q' : Rl} {v : Value} {n sz : Nat} {xs : List Value} (h : Hin w' (cz w.heap.size p q) v n sz xs) (k : ∀ b, b < w.heap.size → ¬ Both p q b → q'.col b = 0) : Hin w' q'.col v n sz xs :=
  h.col (fun b _ hc => k b (cz_zero hc).1 (cz_zero hc).2)

/-! ### The acts -/
section
variable {w0 w : World} {G : Nat → Prop} {d r : Nat} {M N : Md}
theorem dv_13 (h : Dv w0 w G d r M N) (ha : M.acts < 100000) (s : Bs) (hl : s.length ≤ 9223372036854775807) :
    Calls Try.prog 13 #[pv d, sv s] w fun e w' => (∃ v, e = .returned v ∧ ErrV w' v [99, 114, 101, 97, 116, 101] s (actR M (doC M.act1 s)).1) ∧ Dv w0 w' G d r (actR M (doC M.act1 s)).2 N ∧ Kx w w' := by
  refine h.callP fun p hp hr => ?_
  subst hp
  refine (create_13 hr ha s hl).mono ?_
  rintro e w' ⟨v, h1, h2, h3⟩
  exact ⟨⟨v, h1, h2⟩, h3⟩
theorem dv_15 (h : Dv w0 w G d r M N) (ha : M.acts < 100000) (s : Bs) (hl : s.length ≤ 9223372036854775807) :
    Calls Try.prog 15 #[pv d, sv s] w fun e w' => (∃ v, e = .returned v ∧ ErrV w' v [114, 101, 109, 111, 118, 101] s (actR M (doRm M.act1 s)).1) ∧ Dv w0 w' G d r (actR M (doRm M.act1 s)).2 N ∧ Kx w w' := by
  refine h.callP fun p hp hr => ?_
  subst hp
  refine (remove_15 hr ha s hl).mono ?_
  rintro e w' ⟨v, h1, h2, h3⟩
  exact ⟨⟨v, h1, h2⟩, h3⟩
theorem dv_17 (h : Dv w0 w G d r M N) (ha : M.acts < 100000) (s : Bs) (hl : s.length ≤ 9223372036854775807) :
    Calls Try.prog 17 #[pv d, sv s] w fun e w' => (∃ v, e = .returned v ∧ ErrV w' v [115, 121, 110, 99] s (actR M (doSy M.act1 s)).1) ∧ Dv w0 w' G d r (actR M (doSy M.act1 s)).2 N ∧ Kx w w' := by
  refine h.callP fun p hp hr => ?_
  subst hp
  refine (sync_17 hr ha s hl).mono ?_
  rintro e w' ⟨v, h1, h2, h3⟩
  exact ⟨⟨v, h1, h2⟩, h3⟩
theorem dv_24 (h : Dv w0 w G d r M N) (ha : M.acts < 100000) :
    Calls Try.prog 24 #[pv d] w fun e w' => (∃ v, e = .returned v ∧ ErrV w' v [115, 121, 110, 99, 110, 97, 109, 101, 115] [] (actR M (0, M.act1.settle M.ch.length)).1) ∧ Dv w0 w' G d r (actR M (0, M.act1.settle M.ch.length)).2 N ∧ Kx w w' := by
  refine h.callP fun p hp hr => ?_
  subst hp
  refine (syncn_24 hr ha).mono ?_
  rintro e w' ⟨v, h1, h2, h3⟩
  exact ⟨⟨v, h1, h2⟩, h3⟩
theorem dv_34 (h : Dv w0 w G d r M N) (ha : M.acts < 100000) (s t : Bs) (hl : s.length ≤ 9223372036854775807) (ht : t.length ≤ 9223372036854775807) :
    Calls Try.prog 34 #[pv d, sv s, sv t] w fun e w' => (∃ v, e = .returned v ∧ ErrV w' v [114, 101, 110, 97, 109, 101] s (actR M (doRn M.act1 s t)).1) ∧ Dv w0 w' G d r (actR M (doRn M.act1 s t)).2 N ∧ Kx w w' := by
  refine h.callP fun p hp hr => ?_
  subst hp
  refine (rename_34 hr ha s t hl ht).mono ?_
  rintro e w' ⟨v, h1, h2, h3⟩
  exact ⟨⟨v, h1, h2⟩, h3⟩
theorem dv_26 (h : Dv w0 w G d r M N) (ha : M.acts < 100000) (s : Bs) (hl : s.length ≤ 9223372036854775807) {L : List (Bs × Nat)} (hL : Rep L M.names) (hsm : sumL M L ≤ 1000000000000)
    {b : Bs} {g cp : Nat} (hb : w.ownsRow 0 5 1 (.slice (some ⟨g, 0, none⟩) b.length cp) b.length (b.map b8)) (rm : Nat) (hrm : (rm : Int) = max (M.space - (sumL M L : Int)) 0) (hbd : b.length ≤ 2097152) (hbd2 : ∀ k, (M.file k).1.length + b.length ≤ 1000000000) :
    Calls Try.prog 26 #[pv d, sv s, .slice (some ⟨g, 0, none⟩) b.length cp] w fun e w' => (∃ v, e = .returned v ∧ ErrV w' v [97, 112, 112, 101, 110, 100] s (apX M rm s b).1) ∧ Dv w0 w' G d r (apX M rm s b).2 N ∧ Kx w w' := by
  refine h.callP fun p hp hr => ?_
  subst hp
  have hgc : p.d ≠ g := fun e => by
    obtain ⟨cur, hc⟩ := row_block hb g rfl
    have hbx := hr.box
    rw [e] at hbx
    exact ne_of_type hbx hc (by decide) rfl
  refine (append_26x hr ha s hl hL hsm (Rdr.of hb) hgc rm hrm hbd hbd2).mono ?_
  rintro e w' ⟨v, h1, h2, h3⟩
  exact ⟨⟨v, h1, h2⟩, h3⟩
theorem dv_14 (h : Dv w0 w G d r M N) (ha : N.acts < 100000) (s : Bs) (hl : s.length ≤ 9223372036854775807) :
    Calls Try.prog 14 #[pv r, sv s] w fun e w' => e = .returned (fltO [99, 114, 101, 97, 116, 101] s (actR N (doC N.act1 s)).1) ∧ Dv w0 w' G d r M (actR N (doC N.act1 s)).2 ∧ Kx w w' := by
  refine h.callR fun p hp hr _ => ?_
  subst hp
  exact rcreate_14 hr ha s hl
theorem dv_16 (h : Dv w0 w G d r M N) (ha : N.acts < 100000) (s : Bs) (hl : s.length ≤ 9223372036854775807) :
    Calls Try.prog 16 #[pv r, sv s] w fun e w' => e = .returned (fltO [114, 101, 109, 111, 118, 101] s (actR N (doRm N.act1 s)).1) ∧ Dv w0 w' G d r M (actR N (doRm N.act1 s)).2 ∧ Kx w w' := by
  refine h.callR fun p hp hr _ => ?_
  subst hp
  exact rremove_16 hr ha s hl
theorem dv_18 (h : Dv w0 w G d r M N) (ha : N.acts < 100000) (s : Bs) (hl : s.length ≤ 9223372036854775807) :
    Calls Try.prog 18 #[pv r, sv s] w fun e w' => e = .returned (fltO [115, 121, 110, 99] s (actR N (doSy N.act1 s)).1) ∧ Dv w0 w' G d r M (actR N (doSy N.act1 s)).2 ∧ Kx w w' := by
  refine h.callR fun p hp hr _ => ?_
  subst hp
  exact rsync_18 hr ha s hl
theorem dv_36 (h : Dv w0 w G d r M N) (ha : N.acts < 100000) :
    Calls Try.prog 36 #[pv r] w fun e w' => e = .returned (fltO [115, 121, 110, 99, 110, 97, 109, 101, 115] [] (actR N (0, N.act1.settle N.ch.length)).1) ∧ Dv w0 w' G d r M (actR N (0, N.act1.settle N.ch.length)).2 ∧ Kx w w' := by
  refine h.callR fun p hp hr _ => ?_
  subst hp
  exact rsyncn_36 hr ha
theorem dv_35 (h : Dv w0 w G d r M N) (ha : N.acts < 100000) (s t : Bs) (hl : s.length ≤ 9223372036854775807) (ht : t.length ≤ 9223372036854775807) :
    Calls Try.prog 35 #[pv r, sv s, sv t] w fun e w' => e = .returned (fltO [114, 101, 110, 97, 109, 101] s (actR N (doRn N.act1 s t)).1) ∧ Dv w0 w' G d r M (actR N (doRn N.act1 s t)).2 ∧ Kx w w' := by
  refine h.callR fun p hp hr _ => ?_
  subst hp
  exact rrename_35 hr ha s t hl ht
theorem dv_33 {p : Pl} {q : Rl} (h : Dv w0 w (Both p q) d r M N) (ha : N.acts < 100000) (s : Bs) (hl : s.length ≤ 9223372036854775807) {L : List (Bs × Nat)} (hL : Rep L N.names) (hsm : sumL N L ≤ 1000000000000)
    {bv : Value} {b : Bs} (hb : Hin w (cz w0.heap.size p q) bv b.length 1 (b.map b8)) (rm : Nat) (hrm : (rm : Int) = max (N.space - (sumL N L : Int)) 0) (hbd : b.length ≤ 2097152) (hbd2 : ∀ k, (N.file k).1.length + b.length ≤ 1000000000) :
    Calls Try.prog 33 #[pv r, sv s, bv] w fun e w' => e = .returned (fltO [97, 112, 112, 101, 110, 100] s (apX N rm s b).1) ∧ Dv w0 w' (Both p q) d r M (apX N rm s b).2 ∧ Kx w w' := by
  refine h.callR fun q' hq hr hc => ?_
  subst hq
  exact rappend_33 hr ha s hl hL hsm (hb.dq hc) rm hrm hbd hbd2
end
theorem bearR_acts {k c : Int} {M M2 : Md} (h : M2.acts = M.acts) : (bearR k c M M2).2.acts = M.acts := by
  unfold bearR
  repeat' split
  all_goals first | rfl | exact h
theorem doAp_acts (M : Md) (rm : Nat) (s b : Bs) : (doAp M rm s b).2.acts = M.acts := by
  unfold doAp
  split
  · split <;> rfl
  · rfl
theorem apX_acts (M : Md) (rm : Nat) (s b : Bs) : (apX M rm s b).2.acts = M.acts + 1 := by
  unfold apX apR
  split
  · exact bearR_acts (doAp_acts M.act1 rm s _)
  · exact actR_acts (doAp_acts M.act1 rm s _)
/-- The program's disk behind a restart, were all files cut. -/
theorem RP.swap {w : World} {p : Pl} {M M' : Md} (h : RP w p M) (ok : M'.Ok) (e0 : M'.space = M.space) (e1 : M'.acts = M.acts) (e2 : M'.files.length = M.files.length) (e3 : M'.safe = M.safe) (e4 : M'.ch = M.ch) (e5 : M'.plan = M.plan) (e6 : M'.dark = M.dark) (hf : ∀ k, Reach M k → M'.files[k]? = M.files[k]?) : RP w p M' := by
  have en : M'.names = M.names := by unfold Md.names; rw [e3, e4]
  have er : ∀ k, Reach M' k → Reach M k := fun k hr => by unfold Reach at hr ⊢; rw [e3, e4] at hr; exact hr
  exact {
    box := by
      have := h.box
      unfold dkA at this ⊢
      rw [e0, e1, e2, e6]
      exact this
    nm := by rw [en]; exact h.nm
    sf := by rw [e3]; exact h.sf
    pl := by rw [e5]; exact h.pl
    ch := by rw [e4]; exact h.ch
    fl := fun k f hr hk => by
      have hr := er k hr
      rw [hf k hr] at hk
      exact h.fl k f hr hk
    cd := h.cd, cn := h.cn, cs := h.cs, cp := h.cp, cc := h.cc
    cf := fun k hr => h.cf k (er k hr)
    cr := fun k b hr hb => h.cr k b (er k hr) hb
    lt := h.lt
    ok := ok }
end Go.Proofs.Ytndjimdegkdljaa
