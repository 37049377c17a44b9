/-
  The document's answer: codes and flags.
-/
import Derived.Test.YtonbkpfnpnlkpaaDoorP
namespace Go.Proofs.YtonbkpfnpnlkpaaDoor
open Go.RowKit
set_option linter.unusedVariables false
set_option linter.unusedSimpArgs false
attribute [local go_sem] Oper.semAt_some

theorem ba_get (l : Bs) (k : Nat) (h : k < (ByteArray.mk l.toArray).size) : (ByteArray.mk l.toArray)[k] = l.getD k 0 := by
  have h2 : k < l.length := by simpa [ByteArray.size] using h
  show (l.toArray)[k] = _
  simp [List.getD, h2]
theorem ext_one (l : Bs) (i : Nat) (c : UInt8) (h : l[i]? = some c) : (ByteArray.mk l.toArray).extract i (i + 1) = ⟨#[c]⟩ := by
  apply ByteArray.ext
  have hlt : i < l.length := (List.getElem?_eq_some_iff.1 h).1
  have hc : l[i] = c := (List.getElem?_eq_some_iff.1 h).2
  simp only [ByteArray.data_extract, List.extract_toArray, List.extract_eq_take_drop]
  rw [show i + 1 - i = 1 by omega, List.drop_eq_getElem_cons hlt, hc]
  rfl
theorem cat_one (x : Bs) (c : UInt8) : (ByteArray.mk x.toArray) ++ (ByteArray.mk #[c]) = ⟨(x ++ [c]).toArray⟩ := by
  apply ByteArray.ext
  simp
theorem tw_more (l : Bs) (i : Nat) (h : ∀ c ∈ l.take i, c ≠ 32) (hi : l[i]? = some 32) : tw l = l.take i := by
  have hlt : i < l.length := (List.getElem?_eq_some_iff.1 hi).1
  have hc : l[i] = 32 := (List.getElem?_eq_some_iff.1 hi).2
  unfold tw
  conv => lhs; rw [← List.take_append_drop i l]
  rw [List.takeWhile_append_of_pos (by intro c hc; simpa using h c hc), List.drop_eq_getElem_cons hlt, hc]
  simp
theorem tw_all (l : Bs) (h : ∀ c ∈ l, c ≠ 32) : tw l = l := by
  unfold tw
  have := List.takeWhile_append_of_pos (l₁ := l) (l₂ := []) (p := fun c => c != 32) (by intro c hc; simpa using h c hc)
  simpa using this
set_option maxRecDepth 100000 in
set_option maxHeartbeats 4000000 in
theorem code_66 (a : An) (ha : a.Ok) (w : World) :
    Calls Tryd.prog 66 #[anV a] w fun e w' => e = .returned (sv (code a)) ∧ w.grownBy w' none := by
  obtain ⟨k, en, nu, tx, st⟩ := a
  obtain ⟨⟨x1, n1, c1, e1⟩, ⟨n2, e2⟩, ⟨x3, n3, c3, e3⟩, hl⟩ := ha
  simp only at e1 e2 e3 hl
  subst e1 e2 e3
  have g1 := World.grownBy_alloc w (.cells (anA ⟨k, .slice x1 n1 c1, .int .u64 n2, tx, .slice x3 n3 c3⟩) 39) none
  have b1 := Box.new w 39 (anA ⟨k, .slice x1 n1 c1, .int .u64 n2, tx, .slice x3 n3 c3⟩)
  have p0 : World.cell? _ ⟨w.heap.size, 0, none⟩ = some (.int .i64 k) := b1.cell 0
  have p3 : World.cell? _ ⟨w.heap.size, 3, none⟩ = some (sv tx) := b1.cell 3
  go_enter Tryd.func66, Tryd.ntmps66
  go_wp2
  generalize w.alloc (.cells (anA ⟨k, .slice x1 n1 c1, .int .u64 n2, tx, .slice x3 n3 c3⟩) 39) = W at *
  go_loopw [3, 4] (fun u v wr => ∃ i : Nat, i ≤ tx.length ∧ u = sv (tx.take i) ∧ v = .int .i64 i ∧ wr = W ∧ (i = 0 ∨ k = 15) ∧ ∀ c ∈ tx.take i, c ≠ 32) (fun _ v _ => tx.length - (intOf v).toNat)
  case atStart => exact ⟨0, by omega, rfl, rfl, rfl, .inl rfl, by simp⟩
  case round =>
    obtain ⟨i, hi, rfl, rfl, rfl, hk, hno⟩ := hrel
    rcases (by omega : i < tx.length ∨ i = tx.length) with hlt | rfl
    · have d1 : (i : Int) < tx.length := by omega
      by_cases hk15 : k = 15
      · obtain ⟨b, hb⟩ : ∃ b, tx[i]? = some b := ⟨_, List.getElem?_eq_getElem hlt⟩
        have hg : ∀ h : i < (ByteArray.mk tx.toArray).size, (ByteArray.mk tx.toArray)[i] = b := fun h => (ba_get tx i h).trans (by simp [List.getD, hb])
        subst hk15
        by_cases h32 : b = 32
        · subst h32
          have er : code ⟨15, .slice x1 n1 c1, .int .u64 n2, tx, .slice x3 n3 c3⟩ = tx.take i := by
            simp only [code, if_true]; exact tw_more tx i hno hb
          generalize tx.take i = pre at *
          go_wp2
          go_ret
          first | exact ⟨rfl, g1⟩ | exact ⟨by rw [er]; rfl, g1⟩
        · have e1 := ext_one tx i b hb
          have e2 := cat_one (tx.take i) b
          have e3 : tx.take i ++ [b] = tx.take (i + 1) := by rw [List.take_add_one, hb]; rfl
          rw [e3] at e2
          have hbn : ¬ ((b.toNat : Int) = 32) := fun e => h32 (UInt8.toNat_inj.1 (by simpa using (by omega : b.toNat = 32)))
          have hsz : (9223372036854775807 < (tx.take i).length + 1) = False := by
            have : (tx.take i).length ≤ tx.length := by simp; omega
            simp; omega
          have hno2 : ∀ c ∈ tx.take (i + 1), c ≠ 32 := by
            rw [← e3]
            intro c hc
            rcases List.mem_append.1 hc with h1 | h1
            · exact hno c h1
            · simp at h1; subst h1; exact h32
          clear hno e3
          go_wp2
          refine ⟨⟨i + 1, by omega, rfl, by simp, trivial, .inr trivial, hno2⟩, ?_⟩
          simp only [intOf]; omega
      · have hi0 : i = 0 := by rcases hk with h | h; exact h; exact absurd h hk15
        subst hi0
        have er : code ⟨k, .slice x1 n1 c1, .int .u64 n2, tx, .slice x3 n3 c3⟩ = [] := by simp [code, hk15]
        clear hno hk
        go_wp2
        go_ret
        first | exact ⟨rfl, g1⟩ | exact ⟨by rw [er]; rfl, g1⟩
    · have er : code ⟨k, .slice x1 n1 c1, .int .u64 n2, tx, .slice x3 n3 c3⟩ = tx := by
        rw [List.take_length] at hno
        rcases hk with h | h
        · have : tx = [] := List.eq_nil_of_length_eq_zero h
          subst this
          simp only [code]; split <;> rfl
        · subst h
          simp only [code, if_true]; exact tw_all tx hno
      rw [List.take_length]
      clear hno hk
      go_wp2
      go_ret
      first | exact ⟨rfl, g1⟩ | exact ⟨by rw [er]; rfl, g1⟩
set_option maxRecDepth 100000 in
set_option maxHeartbeats 4000000 in
theorem has_68 (v : Value) (l : List Fl) (c : UInt8) (w : World) (hv : Flgs w v l) :
    Calls Tryd.prog 68 #[v, .int .u8 c.toNat] w fun e w' => e = .returned (.tuple #[sv ((fnd l c).getD fl0).arg, .bool (fnd l c).isSome]) ∧ w' = w := by
  obtain ⟨ao, cp, rfl, hlc, hc, ha, hx⟩ := hv
  unfold maxLen at hc
  have hlen : l.length ≤ 9223372036854775807 := by omega
  go_enter Tryd.func68, Tryd.ntmps68
  go_wp2
  go_loopw [6] (fun v wr => ∃ i : Nat, i ≤ l.length ∧ v = .int .i64 i ∧ wr = w ∧ fnd (l.take i) c = none) (fun v _ => l.length - (intOf v).toNat)
  case atStart => exact ⟨0, by omega, rfl, rfl, rfl⟩
  case round =>
    obtain ⟨i, hi, rfl, rfl, hp⟩ := hrel
    rcases (by omega : i < l.length ∨ i = l.length) with hlt | rfl
    · obtain ⟨f, hf⟩ : ∃ f, l[i]? = some f := ⟨_, List.getElem?_eq_getElem hlt⟩
      obtain ⟨g, o, rfl, h1, h2, h3⟩ := hx i f hf
      have d1 : ((i : Int) < (l.length : Int)) := by omega
      obtain ⟨fc, fa, fh⟩ := f
      simp only at h1 h2 h3
      have hT : fnd (l.take (i + 1)) c = if fc == c then some ⟨fc, fa, fh⟩ else none := by
        simp only [fnd] at hp ⊢
        rw [List.take_add_one, hf, Option.toList_some, List.find?_append, hp]
        by_cases h : fc == c
        · simp [h]
        · simp [h]
      by_cases hq : fc = c
      · subst hq
        have hF : fnd l fc = some ⟨fc, fa, fh⟩ := by
          simp only [beq_self_eq_true, if_true] at hT
          simp only [fnd] at hT ⊢
          rw [← List.take_append_drop (i + 1) l, List.find?_append, hT]; rfl
        clear hT hp hx
        go_wp2
        go_ret2
        rw [hF]
        exact ⟨rfl, rfl⟩
      · have hqn : ¬ ((fc.toNat : Int) = (c.toNat : Int)) := fun e => hq (UInt8.toNat_inj.1 (by omega))
        have hT2 : fnd (l.take (i + 1)) c = none := by rw [hT, if_neg (by simpa using hq)]
        clear hT hp hx
        go_wp2
        refine ⟨⟨i + 1, by omega, by simp, trivial, hT2⟩, ?_⟩
        simp only [intOf]; omega
    · have hF : fnd l c = none := by rw [List.take_length] at hp; exact hp
      clear hp hx
      go_wp2
      go_ret2
      rw [hF]
      exact ⟨rfl, rfl⟩
end Go.Proofs.YtonbkpfnpnlkpaaDoor
