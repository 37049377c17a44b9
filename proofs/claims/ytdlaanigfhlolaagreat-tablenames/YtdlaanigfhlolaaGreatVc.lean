import Derived.Test.YtdlaanigfhlolaaGreatVb
import Derived.Test.YtdlaanigfhlolaaGreatRi
import Derived.Test.YtdlaanigfhlolaaGreatRh
import Derived.Lib.SlBytesConst
/-
  make.
-/
namespace Go.Proofs.YtdlaanigfhlolaaGreat
open Go.RowKit
set_option linter.unusedVariables false

theorem iwk_inv : Inv (one1 wkA 0) := one1_inv wk_invA (by rw [wk_n.1]; decide) (by rw [wk_np.1, wk_np.2.1]; decide) rfl
theorem iwk_isH : IsH (one1 wkA 0) 1 0 0 := by
  have := one1_isH (i := 0) wk_invA (by rw [wk_n.1]; decide)
  rw [own_hdl wk_np.1, wk_np.1] at this
  exact this
theorem iwk_own : (one1 wkA 0).own 0 = 0 := by
  have := one1_own (A := wkA) (i := 0)
  rw [wk_np.1] at this
  exact this
theorem iwk_place : (one1 wkA 0).place 0 0 = 0 := by
  have := one1_place (A := wkA) (i := 0)
  rw [wk_np.1, Nat.zero_mul] at this
  exact this
theorem iwk_sz : (one1 wkA 0).sz 0 = 64 := by rw [one1_sz]; decide
theorem legal_k : LegalP [107] := ⟨by decide, by decide, fun i hi => by
  have : i = 0 := by simp at hi; omega
  subst this; decide⟩
theorem bytes_k : isBytes [107] := by intro z hz; simp at hz; omega
theorem bytes_v : isBytes [118] := by intro z hz; simp at hz; omega
theorem has_one {w : World} {g : Nat} {x : Int} (h : w.cell? ⟨g, 0, none⟩ = some (.int .u8 x)) : Has w (some ⟨g, 0, none⟩) 1 [x] := by
  refine ⟨rfl, fun _ => ⟨g, 0, rfl, fun i hi => ?_⟩⟩
  have : i = 0 := by omega
  subst this
  exact h

theorem cell_new1 (w : World) (x : Int) (z : Nat × Nat) : (w.alloc (.cells #[.int .u8 x] 5 z)).cell? ⟨w.heap.size, 0, none⟩ = some (.int .u8 x) := cell_of_row _ _ 0 _ _ _ (heap_alloc_new w _)


def wkT : It := ⟨0, 0, 0, 0, 0, 0, 0, 0, 4, 0, 0, [107], [118]⟩
theorem iwk_isI {zs : List Int} (h : 60 ≤ zs.length) : IsI (lay zs 0 wkT.L.flatten) 0 wkT := by
  refine ⟨lies_lay (by rw [It.len]; simpa [wkT] using h), ?_, ?_, ?_, ?_, ?_, ?_, ?_, ?_, ?_, ?_, ?_, ?_, ?_, bytes_k, bytes_v⟩ <;> decide

section
variable {w : World} {sb : Nat} {F : Nat → Prop} {B : Bl} {b c d e f g : Int} {zs : List Int}
theorem iwk_lay (h : IsS w sb F B b c d e f g (one1 wkA 0) (headZ zs 0 0)) (hz : 60 ≤ zs.length) (ka : Option Addr) (kc : Nat) (g2 c2 : Nat) (h1 : Has w ka 1 [107]) (h2 : Has w (some ⟨g2, 0, none⟩) 1 [118]) (n1 : ∀ x, ka.map (·.block) = some x → x ≠ B.ag) (n2 : g2 ≠ B.ag) :
    Calls Tryz.prog 54 #[.pointer (some ⟨sb, 0, none⟩), .int .u64 1, .agg #[.slice ka 1 kc, .slice (some ⟨g2, 0, none⟩) 1 c2, .int .u64 0, .int .i64 0, .int .i64 0, .int .u64 0, .int .i64 4, .int .i64 0]] w fun y w' => y = .returned (.int .i64 0) ∧ IsS w' sb F B b c d e f g (one1 wkA 0) (lay (headZ zs 0 0) 0 wkT.L.flatten) ∧ w.grownBy w' (some B.ag) := by
  have hlz : (headZ zs 0 0).length = zs.length := by rw [headZ_lay _ _ _ (by omega)]; exact length_lay (by rw [hd0_len]; omega)
  have hg := lies_gen (headZ_lies zs 0 0 (by omega))
  have := lay_yes h iwk_inv.fit iwk_isH ka 1 kc (some ⟨g2, 0, none⟩) 1 c2 0 0 0 0 4 0 [107] [118] h1 h2 bytes_k bytes_v n1 (by intro x hx; simp at hx; omega) legal_k (by rw [iwk_own, iwk_sz]; decide) ⟨by decide, by decide, by decide, by decide, by decide⟩ (by decide) 0 (by rw [iwk_place]; exact hg)
  rw [iwk_place, iwk_own] at this
  exact this
end

/-- The document's Set with one chunk taken. -/
def wkR2 : Rb := (wkR.page 0 0).took 0 0
theorem wkR_N : wkR.N = 0 := rfl
theorem wkR_e : wkR.ps / wkR.sz 0 = 64 := by decide +kernel
theorem wkR_h : (wkR.page 0 0).hdl wkR.N = 1 := by
  have h := (page_new wkR 0 0 0 (by rw [wkR_e]; decide))
  unfold Rb.hdl
  rw [wkR_N] at h ⊢
  simp only [Nat.add_zero] at h
  rw [h.1, h.2.2.1]
  simp
theorem took_facts (R : Rb) (c i : Nat) : (R.took c i).N = R.N ∧ (R.took c i).n = R.n ∧ (R.took c i).sz = R.sz ∧ (R.took c i).cl = R.cl ∧ (∀ k, (R.took c i).hdl k = R.hdl k) ∧ (R.took c i).tk i = true := ⟨rfl, rfl, rfl, rfl, fun _ => rfl, by show upd R.tk i true i = true; rw [upd_same]⟩
theorem wkR_pf : RFit (wkR.page 0 0) := page_fit wkR_fit (by decide) (by decide) (by rw [wkR_e, wkR_N]; decide) (by rw [wkR_e]; decide)
theorem wkR2_fit : RFit wkR2 := by unfold wkR2; exact took_fit wkR_pf 0 0
theorem wkR2_N : wkR2.N = 64 := by
  have h := (page_facts wkR 0 0).1
  rw [wkR_e, wkR_N] at h
  unfold wkR2
  rw [(took_facts _ 0 0).1, h]
theorem wkR2_cl : wkR2.cl 0 = 0 := by
  have h := (page_new wkR 0 0 0 (by rw [wkR_e]; decide)).2.1
  rw [wkR_N] at h
  unfold wkR2
  rw [(took_facts _ 0 0).2.2.2.1]
  exact h
theorem wkR2_n : wkR2.n = 3 := by
  have h := (page_facts wkR 0 0).2.2.2.1
  unfold wkR2
  rw [(took_facts _ 0 0).2.1, h]
  rfl
theorem wkR2_sz : wkR2.sz 0 = 64 := by
  have h := (page_facts wkR 0 0).2.2.1
  unfold wkR2
  rw [(took_facts _ 0 0).2.2.1, h]
  decide +kernel
theorem wkR2_h : wkR2.hdl 0 = 1 := by
  have h := wkR_h
  rw [wkR_N] at h
  unfold wkR2
  rw [(took_facts _ 0 0).2.2.2.2.1, h]
theorem wkR2_tk : wkR2.tk 0 = true := by
  unfold wkR2
  exact (took_facts _ 0 0).2.2.2.2.2

/-- A stage with one item, not put yet. -/
structure St1 (w : World) (st sb : Nat) (G : Nat → Prop) (B : Bl) (zs : List Int) (tb hb : Nat) (mo : Int) (rb : Nat) (Fr : Nat → Prop) (Q : Rl) (qb wb : Nat) (mo2 : Int) (av : Value) (gi ci : Nat) (its : Nat → List Value) (ka : Option Addr) (kc : Nat) (va : Option Addr) (vc : Nat) : Prop where
  box : Box w 39 st #[.pointer (some ⟨sb, 0, none⟩), .pointer (some ⟨tb, 0, none⟩), .pointer (some ⟨qb, 0, none⟩), .pointer (some ⟨wb, 0, none⟩), av, .int .i64 0]
  iss : IsS w sb G B 3 200 64 256 30 30 (one1 wkA 0) zs
  isi : IsI zs 0 wkT
  ist : IsT w tb hb sb mo 0 16 0 2 (List.replicate 16 0)
  m16 : 16 ≤ mo
  isr : IsR w rb Fr Q 200 64 256 wkR2
  isq : IsQ w qb rb (.slice (some ⟨gi, 0, none⟩) 64 ci) 64 its
  it : its 0 = [.bool true, .slice ka 1 kc, .slice va 1 vc, .int .u64 0, .int .i64 0, .int .i64 0, .int .u64 0, .int .i64 4, .int .i64 0, .int .u64 0, .int .u64 0, .int .u64 0]
  has : Has w ka 1 [107]
  bw : Box w 90 wb #[.pointer (some ⟨qb, 0, none⟩), .slice none 0 0, .int .i64 16, .int .i64 mo2, .int .i64 0]
  n1 : ¬ G st ∧ ¬ G tb ∧ ¬ G hb ∧ ¬ G qb ∧ ¬ G wb ∧ ¬ G gi
  n2 : ∀ k, Fr k → ¬ G k
  n3 : ∀ k, ka.map (·.block) = some k → ¬ G k
  n4 : ¬ Fr tb ∧ ¬ Fr hb ∧ ¬ Fr wb ∧ ¬ Fr st

end Go.Proofs.YtdlaanigfhlolaaGreat
