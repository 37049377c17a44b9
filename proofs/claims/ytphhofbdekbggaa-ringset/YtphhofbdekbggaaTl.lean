/-
  RingSet: what is wanted for the law's walk.
-/
import Derived.Test.YtphhofbdekbggaaTk
import Derived.Test.YtphhofbdekbggaaSd
import Derived.Test.YtphhofbdekbggaaSe
import Derived.Test.YtphhofbdekbggaaSf
namespace Go.Proofs.Ytphhofbdekbggaa
open Go.RowKit
set_option linter.unusedVariables false
set_option linter.unusedSimpArgs false

theorem asc_cons {p : Sv} {L : List Sv} (h : Asc (p :: L)) : Asc L ∧ ∀ q ∈ L, p.1.toList < q.1.toList := by
  have := List.pairwise_cons.1 (asc_pw.1 h)
  exact ⟨asc_pw.2 this.2, this.1⟩
/-- Rising lists of the same servers are one list. -/
theorem asc_uniq : ∀ {L M : List Sv}, Asc L → Asc M → L.Perm M → L = M
  | [], M, _, _, hp => (List.nil_perm.1 hp).symm
  | p :: L, [], _, _, hp => absurd hp.length_eq (by simp)
  | p :: L, q :: M, h1, h2, hp => by
    have hpq : p = q := by
      rcases List.mem_cons.1 (hp.subset (List.mem_cons_self ..)) with e | e
      · exact e
      · rcases List.mem_cons.1 (hp.symm.subset (List.mem_cons_self ..)) with e' | e'
        · exact e'.symm
        · exact absurd (List.lt_trans ((asc_cons h1).2 q e') ((asc_cons h2).2 p e)) (List.lt_irrefl _)
    subst hpq
    rw [asc_uniq (asc_cons h1).1 (asc_cons h2).1 (List.Perm.cons_inv hp)]
theorem del_ne {M : List Sv} (h : Asc M) (h0 : 0 < M.length) : ∀ q ∈ delL M 0, q.1.toList ≠ (sat M 0).1.toList := by
  intro q hq e
  match M, h0 with
  | p :: M, _ =>
    have : q ∈ M := by simpa [delL] using hq
    have h2 := (asc_cons h).2 q this
    rw [e] at h2
    exact List.lt_irrefl _ h2
/-- The next server of distinct ones is none of those that follow. -/
theorem next_ne {K M : List Sv} (hd : Dst K) (k : Nat) (hk : k < K.length) (hp : M.Perm (K.drop (k + 1))) : ∀ q ∈ M, q.1.toList ≠ (sat K k).1.toList := by
  intro q hq e
  have hq2 := hp.subset hq
  obtain ⟨j, hj, rfl⟩ := List.getElem_of_mem hq2
  rw [List.getElem_drop] at e
  have := hd.ne (i := k) (j := k + 1 + j) (by omega) (by rw [List.length_drop] at hj; omega)
  rw [sat_eq K (k + 1 + j) (by rw [List.length_drop] at hj; omega)] at this
  exact this e.symm
theorem next_perm {K M M' : List Sv} (k : Nat) (hk : k < K.length) (hp : M.Perm (K.drop (k + 1))) (h : M'.Perm (sat K k :: M)) : M'.Perm (K.drop k) := by
  rw [drop_cons_sat K k hk]
  exact h.trans (List.Perm.cons _ hp)
theorem RZ.asc {w : World} {v : Value} {L : List Sv} {ps : List Pt} (h : RZ w v L ps) : Asc L := by
  obtain ⟨_, _, _, _, _, _, _, _, _, _, h, _⟩ := h.parts
  exact h
theorem RZ.ok {w : World} {v : Value} {L : List Sv} {ps : List Pt} (h : RZ w v L ps) : ∀ p ∈ L, svOk p = true := by
  obtain ⟨_, _, _, _, _, _, _, _, _, _, _, h, _⟩ := h.parts
  exact h
/-- A variable that holds a ring, or the empty one. -/
structure Bx (w : World) (b : Nat) (M : List Sv) (qs : List Pt) : Prop where
  ex : ∃ s1 s2 s3 t1 t2 t3, Box w 32 b #[.slice s1 s2 s3, .slice t1 t2 t3] ∧ RZ w (.agg #[.slice s1 s2 s3, .slice t1 t2 t3]) M qs
theorem Bx.grown {w w' : World} {b : Nat} {M : List Sv} {qs : List Pt} (h : Bx w b M qs) (hf : w.grownBy w' none) : Bx w' b M qs := by
  obtain ⟨s1, s2, s3, t1, t2, t3, hb, hr⟩ := h.ex
  exact ⟨⟨s1, s2, s3, t1, t2, t3, hb.kept hf (by simp), hr.grown hf⟩⟩
/-- A ring is put into a variable. -/
theorem Bx.put {w : World} {b : Nat} {M : List Sv} {qs : List Pt} {s1 t1 : Option Addr} {s2 s3 t2 t3 : Nat} {u1 v1 : Option Addr} {u2 u3 v2 v3 : Nat} (hb : Box w 32 b #[.slice u1 u2 u3, .slice v1 v2 v3]) (hr : RZ w (.agg #[.slice s1 s2 s3, .slice t1 t2 t3]) M qs) :
    Bx ((w.setCell ⟨b, 0, none⟩ (.slice s1 s2 s3)).setCell ⟨b, 1, none⟩ (.slice t1 t2 t3)) b M qs := by
  have h0 := hb.cell 0
  have h1 := (hb.set 0 (.slice s1 s2 s3)).cell 1
  simp at h0 h1
  refine ⟨⟨s1, s2, s3, t1, t2, t3, ?_, (hr.setS h0 _).setS h1 _⟩⟩
  have := (hb.set 0 (.slice s1 s2 s3)).set 1 (.slice t1 t2 t3)
  simpa using this
end Go.Proofs.Ytphhofbdekbggaa
