import Derived.Test.YtoaaaeefcipdcaaXb
import Derived.Test.YtoaaaeefcipdcaaXc
import Derived.Test.YtoaaaeefcipdcaaXd
import Derived.Test.YtoaaaeefcipdcaaXe
/-
  ClassApart: one, for any operation.
-/
namespace Go.Proofs.Ytoaaaeefcipdcaa
open Go.RowKit
set_option linter.unusedVariables false

def OneC (A A' : Ab) (dn an bn : Int) (H : Nat) (raw : Bool) (hs hs' : List Nat) (o : List Int) : Prop := ∀ {w : World} {sb : Nat} {F : Nat → Prop} {B : Bl} {b c d e f g : Int} {zs : List Int} {hv : Value} (vv : Value), IsS w sb F B b c d e f g A zs → w.ownsRow 0 59 1 hv hs.length (hdls hs) → (∀ k, hv.ownBlock = some k → ¬ F k) →
  Calls Try.prog 28 #[.pointer (some ⟨sb, 0, none⟩), .agg (opC dn an bn H raw vv), hv] w (OneR w sb F b c d e f g A' o hv hs')

theorem one_all {A : Ab} (hI : Inv A) {hs : List Nat} (hl : hs.length ≤ 1000000) (hb : ∀ x, x ∈ hs → x < 18446744073709551616) {H : Nat} (h64 : H < 18446744073709551616) (dn an bn : Int) (raw : Bool) :
    ∃ A' hs' o, Inv A' ∧ hs'.length ≤ hs.length + 1 ∧ (∀ x, x ∈ hs' → x < 18446744073709551616) ∧ o.length ≤ 1000 ∧ OneC A A' dn an bn H raw hs hs' o := by
  have hn1 := hI.toSzs.n1
  have hn2 := hI.toSzs.n2
  by_cases hd1 : dn = 1
  · subst hd1
    obtain ⟨i, hi, _, hiw⟩ := within_nat an A.n (by omega) (by omega)
    obtain ⟨A', hd, er, her, hdb, hI', hT⟩ := take_all hI hi
    have hT' : ∀ {w : World} {sb : Nat} {F : Nat → Prop} {B : Bl} {b c d e f g : Int} {zs : List Int}, IsS w sb F B b c d e f g A zs → ∀ W, w.grownBy W none → Calls Try.prog 23 #[.pointer (some ⟨sb, 0, none⟩), .int .i64 (i : Nat)] W (SetR W sb F b c d e f g A' (.tuple #[.int .u64 (hd : Nat), .int .i64 er])) := fun h W hf => hT (h.kept0 hf)
    rcases her with rfl | rfl
    · refine ⟨A', hs ++ [hd], [0, wrap64 hd], hI', by simp, fun x hx => ?_, by simp, ?_⟩
      · rcases List.mem_append.1 hx with h1 | h1
        · exact hb x h1
        · rw [List.mem_singleton.1 h1]; exact hdb
      · intro w sb F B b c d e f g zs hv vv h hr hF
        cases raw with
        | true => exact one_take_yt h hI hr hl hF an bn H vv i hiw hd A' (hT' h)
        | false =>
          by_cases hz : hs = []
          · exact one_take_ye h hI hr hl hF an bn H vv hz i hiw hd A' (hT' h)
          · have hp := List.length_pos_iff.2 hz
            obtain ⟨j, hj, _, hjw⟩ := within_nat an hs.length (by omega) (by omega)
            exact one_take_yn h hI hr hl hF an bn H vv j hj hjw i hiw hd A' (hT' h)
    · refine ⟨A', hs, [21, wrap64 hd], hI', by simp, hb, by simp, ?_⟩
      intro w sb F B b c d e f g zs hv vv h hr hF
      cases raw with
      | true => exact one_take_nt h hI hr hl hF an bn H vv i hiw hd A' (hT' h)
      | false =>
        by_cases hz : hs = []
        · exact one_take_ne h hI hr hl hF an bn H vv hz i hiw hd A' (hT' h)
        · have hp := List.length_pos_iff.2 hz
          obtain ⟨j, hj, _, hjw⟩ := within_nat an hs.length (by omega) (by omega)
          exact one_take_nn h hI hr hl hF an bn H vv j hj hjw i hiw hd A' (hT' h)
  · by_cases hd2 : dn = 2
    · subst hd2
      by_cases hz : raw = false ∧ hs ≠ []
      · obtain ⟨rfl, hz⟩ := hz
        have hp := List.length_pos_iff.2 hz
        obtain ⟨j, hj, _, hjw⟩ := within_nat an hs.length (by omega) (by omega)
        have hjb : hs.getD j 0 < 18446744073709551616 := by
          rw [List.getD_eq_getElem?_getD, List.getElem?_eq_getElem hj]
          exact hb _ (List.getElem_mem hj)
        obtain ⟨A', er, hI', hG⟩ := give_all hI hjb
        refine ⟨A', hs, [er], hI', by simp, hb, by simp, ?_⟩
        intro w sb F B b c d e f g zs hv vv h hr hF
        exact one_give_n h hI hr hl hF an bn H vv j hj hjw er A' (fun W hf => hG (h.kept0 hf))
      · obtain ⟨A', er, hI', hG⟩ := give_all hI h64
        refine ⟨A', hs, [er], hI', by simp, hb, by simp, ?_⟩
        intro w sb F B b c d e f g zs hv vv h hr hF
        cases raw with
        | true => exact one_give_t h hI hr hl hF an bn H vv er A' (fun W hf => hG (h.kept0 hf))
        | false =>
          have hz' : hs = [] := Classical.byContradiction fun hh => hz ⟨rfl, hh⟩
          exact one_give_e h hI hr hl hF an bn H vv hz' er A' (fun W hf => hG (h.kept0 hf))
    · obtain ⟨fp, ow, qu, fr, tk, h1, h2, h3, h4, h5⟩ := tells_all hI an
      by_cases hz : raw = false ∧ hs ≠ []
      · obtain ⟨rfl, hz⟩ := hz
        have hp := List.length_pos_iff.2 hz
        obtain ⟨j, hj, _, hjw⟩ := within_nat an hs.length (by omega) (by omega)
        have hjb : hs.getD j 0 < 18446744073709551616 := by
          rw [List.getD_eq_getElem?_getD, List.getElem?_eq_getElem hj]
          exact hb _ (List.getElem_mem hj)
        obtain ⟨p, cc, er, kk, ok, ha, ho⟩ := atOf_all hI hjb
        cases ok with
        | true =>
          refine ⟨A, hs, [p, cc, er, IntKind.i64.wrap kk, fp, ow, qu, fr, tk, 1], hI, by simp, hb, by simp, ?_⟩
          intro w sb F B b c d e f g zs hv vv h hr hF
          exact one_tell_yn h hI hr hl hF an bn H vv j hj hjw dn hd1 hd2 p cc er fp ow qu fr tk kk (fun W hf => ha (h.kept0 hf)) (fun W hf => ho (h.kept0 hf)) (fun W hf => h1 (h.kept0 hf)) (fun W hf => h2 (h.kept0 hf)) (fun W hf => h3 (h.kept0 hf)) (fun W hf => h4 (h.kept0 hf)) (fun W hf => h5 (h.kept0 hf))
        | false =>
          refine ⟨A, hs, [p, cc, er, IntKind.i64.wrap kk, fp, ow, qu, fr, tk], hI, by simp, hb, by simp, ?_⟩
          intro w sb F B b c d e f g zs hv vv h hr hF
          exact one_tell_nn h hI hr hl hF an bn H vv j hj hjw dn hd1 hd2 p cc er fp ow qu fr tk kk (fun W hf => ha (h.kept0 hf)) (fun W hf => ho (h.kept0 hf)) (fun W hf => h1 (h.kept0 hf)) (fun W hf => h2 (h.kept0 hf)) (fun W hf => h3 (h.kept0 hf)) (fun W hf => h4 (h.kept0 hf)) (fun W hf => h5 (h.kept0 hf))
      · obtain ⟨p, cc, er, kk, ok, ha, ho⟩ := atOf_all hI h64
        have hz' : raw = false → hs = [] := fun hr => Classical.byContradiction fun hh => hz ⟨hr, hh⟩
        cases ok with
        | true =>
          refine ⟨A, hs, [p, cc, er, IntKind.i64.wrap kk, fp, ow, qu, fr, tk, 1], hI, by simp, hb, by simp, ?_⟩
          intro w sb F B b c d e f g zs hv vv h hr hF
          cases raw with
          | true => exact one_tell_yt h hI hr hl hF an bn H vv dn hd1 hd2 p cc er fp ow qu fr tk kk (fun W hf => ha (h.kept0 hf)) (fun W hf => ho (h.kept0 hf)) (fun W hf => h1 (h.kept0 hf)) (fun W hf => h2 (h.kept0 hf)) (fun W hf => h3 (h.kept0 hf)) (fun W hf => h4 (h.kept0 hf)) (fun W hf => h5 (h.kept0 hf))
          | false => exact one_tell_ye h hI hr hl hF an bn H vv (hz' rfl) dn hd1 hd2 p cc er fp ow qu fr tk kk (fun W hf => ha (h.kept0 hf)) (fun W hf => ho (h.kept0 hf)) (fun W hf => h1 (h.kept0 hf)) (fun W hf => h2 (h.kept0 hf)) (fun W hf => h3 (h.kept0 hf)) (fun W hf => h4 (h.kept0 hf)) (fun W hf => h5 (h.kept0 hf))
        | false =>
          refine ⟨A, hs, [p, cc, er, IntKind.i64.wrap kk, fp, ow, qu, fr, tk], hI, by simp, hb, by simp, ?_⟩
          intro w sb F B b c d e f g zs hv vv h hr hF
          cases raw with
          | true => exact one_tell_nt h hI hr hl hF an bn H vv dn hd1 hd2 p cc er fp ow qu fr tk kk (fun W hf => ha (h.kept0 hf)) (fun W hf => ho (h.kept0 hf)) (fun W hf => h1 (h.kept0 hf)) (fun W hf => h2 (h.kept0 hf)) (fun W hf => h3 (h.kept0 hf)) (fun W hf => h4 (h.kept0 hf)) (fun W hf => h5 (h.kept0 hf))
          | false => exact one_tell_ne h hI hr hl hF an bn H vv (hz' rfl) dn hd1 hd2 p cc er fp ow qu fr tk kk (fun W hf => ha (h.kept0 hf)) (fun W hf => ho (h.kept0 hf)) (fun W hf => h1 (h.kept0 hf)) (fun W hf => h2 (h.kept0 hf)) (fun W hf => h3 (h.kept0 hf)) (fun W hf => h4 (h.kept0 hf)) (fun W hf => h5 (h.kept0 hf))

end Go.Proofs.Ytoaaaeefcipdcaa
