import Derived.Test.YtoaaaeefcipdcaaXa
import Derived.Test.YtoaaaeefcipdcaaSu
/-
  ClassApart: what a Set answers hangs on what is said of it alone.
-/
namespace Go.Proofs.Ytoaaaeefcipdcaa
open Go.RowKit
set_option linter.unusedVariables false

/-- What is left behind a call that may turn the Set. -/
def SetR (w : World) (sb : Nat) (F : Nat → Prop) (b c d e f g : Int) (A' : Ab) (v : Value) (y : Ending) (w' : World) : Prop :=
  y = .returned v ∧ Kp F w w' ∧ ∃ F' B' zs', IsS w' sb F' B' b c d e f g A' zs' ∧ ∀ k, F' k → F k ∨ w.heap.size ≤ k

def TakeC (A A' : Ab) (i hd : Nat) (er : Int) : Prop := ∀ {w : World} {sb : Nat} {F : Nat → Prop} {B : Bl} {b c d e f g : Int} {zs : List Int}, IsS w sb F B b c d e f g A zs →
  Calls Try.prog 23 #[.pointer (some ⟨sb, 0, none⟩), .int .i64 (i : Nat)] w (SetR w sb F b c d e f g A' (.tuple #[.int .u64 (hd : Nat), .int .i64 er]))
def GiveC (A A' : Ab) (H : Nat) (er : Int) : Prop := ∀ {w : World} {sb : Nat} {F : Nat → Prop} {B : Bl} {b c d e f g : Int} {zs : List Int}, IsS w sb F B b c d e f g A zs →
  Calls Try.prog 25 #[.pointer (some ⟨sb, 0, none⟩), .int .u64 (H : Nat)] w (SetR w sb F b c d e f g A' (.int .i64 er))
/-- A call that tells and turns nothing. -/
def TellC (A : Ab) (fn : Nat) (args : List Value) (v : Value) : Prop := ∀ {w : World} {sb : Nat} {F : Nat → Prop} {B : Bl} {b c d e f g : Int} {zs : List Int}, IsS w sb F B b c d e f g A zs →
  Calls Try.prog fn (#[.pointer (some ⟨sb, 0, none⟩)] ++ args.toArray) w fun y w' => y = .returned v ∧ w.grownBy w' none

theorem hdl_lt {A : Ab} (hA : Fit2 A) (hg : ∀ p k, A.gen p k < 4294967296) {p k : Nat} (hp : p < A.np) (hk : k < A.each (A.own p)) : A.hdl p k < 18446744073709551616 := by
  have h1 := (num_lt hA.toFit1 hp hk).1
  have h2 := hg p k
  unfold Ab.hdl
  omega

theorem take_all {A : Ab} (hI : Inv A) {i : Nat} (hi : i < A.n) : ∃ A' hd er, (er = 0 ∨ er = 21) ∧ hd < 18446744073709551616 ∧ Inv A' ∧ TakeC A A' i hd er := by
  by_cases hr : A.row i = []
  · by_cases hm : A.np = A.m
    · refine ⟨A, 0, 21, .inr rfl, by omega, hI, ?_⟩
      intro w sb F B b c d e f g zs h
      refine (take_room h hI.fit.toFit hi hr hm).mono ?_
      rintro y w' ⟨rfl, hf⟩
      exact ⟨rfl, Kp.of hf, F, B, zs, h.kept0 hf, fun k hk => .inl hk⟩
    · have hnm := hI.nm
      have hlt : A.np < A.m := by omega
      have hIo := hI.own hi hlt
      have he := (hI.toSzs.each hi).1
      have hrl : ((A.owned i).row i).getLast? = some ((A.owned i).num A.np 0) := by
        rw [owned_row, if_pos rfl, hr, List.nil_append, nums_last A i (by omega), owned_num2]
      have hnp : A.np < (A.owned i).np := by rw [owned_np]; omega
      have hok : (A.owned i).own A.np = i := by rw [owned_own, if_pos rfl]
      have hek : 0 < (A.owned i).each i := by rw [owned_each]; omega
      have hIt := hIo.take (c := i) (p := A.np) (k := 0) (by rw [owned_n]; exact hi) hnp hok hek (by rw [owned_tkn, if_pos rfl]) hrl
      refine ⟨_, (A.owned i).hdl A.np 0, 0, .inl rfl, hdl_lt hIo.fit hIo.gn hnp (by rw [hok]; exact hek), hIt, ?_⟩
      intro w sb F B b c d e f g zs h
      refine (take_page h hI hi hr hlt).mono ?_
      rintro y w' ⟨rfl, hK, F', B', hS, hF⟩
      exact ⟨rfl, hK, F', B', _, hS, hF⟩
  · obtain ⟨x, hx⟩ : ∃ x, (A.row i).getLast? = some x := ⟨_, List.getLast?_eq_some_getLast hr⟩
    obtain ⟨p, k, hp, ho, hk, rfl, ht⟩ := hI.rs i hi x (List.mem_of_getLast? hx)
    refine ⟨_, A.hdl p k, 0, .inl rfl, hdl_lt hI.fit hI.gn hp (by rw [ho]; exact hk), hI.take hi hp ho hk ht hx, ?_⟩
    intro w sb F B b c d e f g zs h
    refine (take_row h hI.fit hi hp ho hk ht hx).mono ?_
    rintro y w' ⟨rfl, ⟨B', _, hS⟩, hK⟩
    exact ⟨rfl, hK, F, B', _, hS, fun k hk => .inl hk⟩

theorem give_all {A : Ab} (hI : Inv A) {H : Nat} (h64 : H < 18446744073709551616) : ∃ A' er, Inv A' ∧ GiveC A A' H er := by
  by_cases hH : ∃ p k, IsH A H p k
  · obtain ⟨p, k, hH⟩ := hH
    refine ⟨_, 0, hI.give (v := (A.gen p k + 1) % 4294967296) (Nat.mod_lt _ (by omega)) hH.hp hH.hk hH.ht, ?_⟩
    intro w sb F B b c d e f g zs h
    refine (give_yes h hI hH _ rfl).mono ?_
    rintro y w' ⟨rfl, hK, F', B', hS, hF⟩
    exact ⟨rfl, hK, F', B', _, hS, hF⟩
  · refine ⟨A, 20, hI, ?_⟩
    intro w sb F B b c d e f g zs h
    refine (give_no h hI.fit h64 (fun p k hh => hH ⟨p, k, hh⟩)).mono ?_
    rintro y w' ⟨rfl, hf⟩
    exact ⟨rfl, Kp.of hf, F, B, zs, h.kept0 hf, fun k hk => .inl hk⟩

theorem atOf_all {A : Ab} (hI : Inv A) {H : Nat} (h64 : H < 18446744073709551616) : ∃ (p cc er : Int) (kk : Nat) (ok : Bool), TellC A 26 [.int .u64 (H : Nat)] (.tuple #[.int .i64 p, .int .i64 cc, .int .i64 er]) ∧ TellC A 66 [.int .i64 p] (.tuple #[.int .u64 kk, .bool ok]) := by
  by_cases hH : ∃ p k, IsH A H p k
  · obtain ⟨p, k, hH⟩ := hH
    refine ⟨_, _, _, _, _, fun h => at_yes h hI.fit hH, fun h => of_yes h hI.fit ⟨hH.hp, hH.hk, rfl⟩ hH.ht⟩
  · by_cases hC : ∃ p k, IsC A 0 p k ∧ A.tkn p k = true
    · obtain ⟨p, k, hC, ht⟩ := hC
      exact ⟨_, _, _, _, _, fun h => at_no h hI.fit h64 (fun p k hh => hH ⟨p, k, hh⟩), fun h => of_yes h hI.fit hC ht⟩
    · refine ⟨_, _, _, 0, _, fun h => at_no h hI.fit h64 (fun p k hh => hH ⟨p, k, hh⟩), fun h => of_no h hI.fit (by omega) (fun p k hh => ?_)⟩
      cases ht : A.tkn p k with
      | false => rfl
      | true => exact absurd ⟨p, k, hh, ht⟩ hC

theorem tells_all {A : Ab} (hI : Inv A) (an : Int) : ∃ fp ow qu fr tk : Int, TellC A 58 [] (.int .i64 fp) ∧ TellC A 64 [.int .i64 an] (.int .i64 ow) ∧ TellC A 71 [.int .i64 an] (.int .i64 qu) ∧ TellC A 70 [.int .i64 an] (.int .i64 fr) ∧ TellC A 69 [.int .i64 an] (.int .i64 tk) := by
  have hA := hI.fit
  have h1 : ∃ fp : Int, TellC A 58 [] (.int .i64 fp) := by
    refine ⟨((A.m - A.np : Nat) : Int), fun h => (freePages_21 h hA.toFit).mono ?_⟩
    rintro y w' ⟨rfl, q, rfl⟩
    exact ⟨rfl, gb_drewN (gb_refl _ _) q⟩
  have h2 : ∃ v : Int, TellC A 64 [.int .i64 an] (.int .i64 v) := by
    by_cases hx : 0 ≤ an ∧ an < A.np
    · obtain ⟨p, rfl⟩ : ∃ p : Nat, an = p := ⟨an.toNat, by omega⟩
      refine ⟨(A.own p : Nat), fun h => (owner_yes h hA.toFit p (by omega)).mono ?_⟩
      rintro y w' ⟨rfl, rfl⟩
      exact ⟨rfl, gb_refl _ _⟩
    · refine ⟨-1, fun h => (owner_no h hA.toFit an hx).mono ?_⟩
      rintro y w' ⟨rfl, rfl⟩
      exact ⟨rfl, gb_refl _ _⟩
  have h3 : ∃ v : Int, TellC A 71 [.int .i64 an] (.int .i64 v) := by
    by_cases hx : 0 ≤ an ∧ an < A.n
    · obtain ⟨p, rfl⟩ : ∃ p : Nat, an = p := ⟨an.toNat, by omega⟩
      exact ⟨_, fun h => quota_yes h hA.toFit p (by omega)⟩
    · exact ⟨_, fun h => quota_no h hA.toFit an hx⟩
  have h4 : ∃ v : Int, TellC A 70 [.int .i64 an] (.int .i64 v) := by
    by_cases hx : 0 ≤ an ∧ an < A.n
    · obtain ⟨p, rfl⟩ : ∃ p : Nat, an = p := ⟨an.toNat, by omega⟩
      exact ⟨_, fun h => free_yes h hA.toFit p (by omega)⟩
    · exact ⟨_, fun h => free_no h hA.toSzs an hx⟩
  have h5 : ∃ v : Int, TellC A 69 [.int .i64 an] (.int .i64 v) := by
    by_cases hx : 0 ≤ an ∧ an < A.n
    · obtain ⟨p, rfl⟩ : ∃ p : Nat, an = p := ⟨an.toNat, by omega⟩
      exact ⟨_, fun h => taken_yes h hA.toSzs p (by omega)⟩
    · exact ⟨_, fun h => taken_no h hA.toSzs an hx⟩
  obtain ⟨a1, h1⟩ := h1
  obtain ⟨a2, h2⟩ := h2
  obtain ⟨a3, h3⟩ := h3
  obtain ⟨a4, h4⟩ := h4
  obtain ⟨a5, h5⟩ := h5
  exact ⟨a1, a2, a3, a4, a5, h1, h2, h3, h4, h5⟩

end Go.Proofs.Ytoaaaeefcipdcaa
