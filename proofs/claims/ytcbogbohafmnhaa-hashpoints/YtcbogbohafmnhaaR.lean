/-
  HashPoints: what is said of the lists.
-/
import Derived.Test.YtcbogbohafmnhaaQ
namespace Go.Proofs.Ytcbogbohafmnhaa
open Go.RowKit
set_option linter.unusedVariables false

theorem ne_of_type {w : World} {a b : Nat} {c1 c2 : Array Value} {t1 t2 : TypeId} {z1 z2 : Nat × Nat} (h1 : w.heap[a]? = some (.cells c1 t1 z1)) (h2 : w.heap[b]? = some (.cells c2 t2 z2)) (h : t1 ≠ t2) : a ≠ b := by
  intro e
  subst e
  rw [h1] at h2
  injection h2 with h2
  injection h2 with _ h3 _
  exact h h3

/-- A list that Points told: its block and its length; none, where it was refused. -/
def eva (e : Nat × Nat) : Option Addr := if e.2 = 0 then none else some ⟨e.1, 0, none⟩
def ev (e : Nat × Nat) : Value := .slice (eva e) e.2 e.2
theorem ev_one (e : Nat × Nat) : (ev e).oneCell' = true := by simp [ev, Value.oneCell']
theorem ev_nil (g : Nat) : ev (g, 0) = .slice none 0 0 := by simp [ev, eva]
theorem ev_some (g n : Nat) (h : 0 < n) : ev (g, n) = .slice (some ⟨g, 0, none⟩) n n := by
  have : ¬ n = 0 := by omega
  simp [ev, eva, this]
theorem eva_none {e : Nat × Nat} (h : eva e = none) : e.2 = 0 := by
  unfold eva at h
  split at h
  · assumption
  · cases h
theorem eva_some {e : Nat × Nat} (h : 0 < e.2) : eva e = some ⟨e.1, 0, none⟩ := by
  unfold eva
  rw [if_neg (by omega)]
theorem uvals_size (us : List Nat) : (uvals us).toArray.size = us.length := by simp [uvals]
theorem uvals_get (us : List Nat) (i : Nat) (h : i < us.length) : (uvals us).toArray[i]? = some (.int .u32 (us.getD i 0 : Nat)) := by simp [uvals, List.getD, h]
theorem ev_has {w : World} {e : Nat × Nat} {us : List Nat} (hl : us.length = e.2) (h : 0 < e.2 → Box w 34 e.1 (uvals us).toArray) : HasU w (eva e) e.2 us := by
  refine ⟨hl, fun h0 => ⟨e.1, 0, eva_some h0, fun i hi => ?_⟩⟩
  rw [Nat.zero_add, (h h0).cell i, uvals_get us i (by omega)]

/-- One name asked: the program's list, the document's, the numbers. -/
abbrev Tr := (Nat × Nat) × Value × List Nat
structure El (B : Nat) (w : World) (t : Tr) : Prop where
  len : t.2.2.length = t.1.2
  box : 0 < t.1.2 → Box w 34 t.1.1 (uvals t.2.2).toArray
  own : OwnU B w t.2.1 t.2.2
  ge : B ≤ t.1.1
  lt : t.1.1 < w.heap.size
  le : t.1.2 ≤ 512
theorem El.kept {B : Nat} {w w' : World} {t : Tr} (h : El B w t) {row : Option Nat} (hf : w.grownBy w' row) (hr : ∀ k, row = some k → ∃ cur, w.heap[k]? = some (.cells cur 41 (0, 0))) : El B w' t := by
  have hne : ∀ k cs, w.heap[k]? = some (.cells cs 34 (0, 0)) → some k ≠ row := by
    intro k cs hk e
    obtain ⟨cur, hc⟩ := hr k e.symm
    exact ne_of_type hk hc (by decide) rfl
  refine ⟨h.len, fun h0 => (h.box h0).kept hf (hne _ _ (h.box h0)), row_kept h.own hf (fun k hk => ?_), h.ge, Nat.lt_of_lt_of_le h.lt hf.size, h.le⟩
  obtain ⟨cur, hc⟩ := row_block h.own k hk
  exact hne k cur hc

/-- The lists told so far. -/
structure P1 (B : Nat) (w : World) (vA vW : Value) (T : List Tr) : Prop where
  rA : w.ownsRow B 41 1 vA T.length (T.map fun t => ev t.1)
  rW : w.ownsRow B 41 1 vW T.length (T.map fun t => t.2.1)
  ne : ∀ k, vA.ownBlock = some k → vW.ownBlock ≠ some k
  el : ∀ t ∈ T, El B w t
  inc : T.Pairwise (fun a b => a.1.1 < b.1.1)
theorem P1.nil (B : Nat) (w : World) : P1 B w (.slice none 0 0) (.slice none 0 0) [] :=
  ⟨World.ownsRow_nil w B 41 1, World.ownsRow_nil w B 41 1, (fun k h => by cases h), (fun t h => by cases h), List.Pairwise.nil⟩
theorem P1.kept {B : Nat} {w w' : World} {vA vW : Value} {T : List Tr} (h : P1 B w vA vW T) (hf : w.grownBy w' none) : P1 B w' vA vW T :=
  ⟨row_kept h.rA hf (by simp), row_kept h.rW hf (by simp), h.ne, fun t ht => (h.el t ht).kept hf (by simp), h.inc⟩
/-- One more, laid into both rows. -/
theorem P1.push {B : Nat} {w w1 w2 : World} {vA vW vA' vW' : Value} {T : List Tr} (h : P1 B w vA vW T) (t : Tr) (ht : El B w t) (hi : ∀ x ∈ T, x.1.1 < t.1.1)
    (a1 : w1.ownsRow B 41 1 vA' (T.length + 1) ((T.map fun t => ev t.1) ++ [ev t.1])) (a2 : w.grownBy w1 vA.ownBlock) (a3 : vA'.ownBlock = vA.ownBlock ∨ ∀ k, vA'.ownBlock = some k → w.heap.size ≤ k)
    (b1 : w2.ownsRow B 41 1 vW' (T.length + 1) ((T.map fun t => t.2.1) ++ [t.2.1])) (b2 : w1.grownBy w2 vW.ownBlock) (b3 : vW'.ownBlock = vW.ownBlock ∨ ∀ k, vW'.ownBlock = some k → w1.heap.size ≤ k) :
    P1 B w2 vA' vW' (T ++ [t]) := by
  have rA := row_block h.rA
  have hW1 : w1.ownsRow B 41 1 vW T.length (T.map fun t => t.2.1) := row_kept h.rW a2 (fun k hk e => h.ne k e.symm hk)
  have rW := row_block hW1
  have hAW : ∀ k, vA'.ownBlock = some k → some k ≠ vW.ownBlock := by
    intro k hk e
    rcases a3 with a3 | a3
    · exact h.ne k (by rw [← a3]; exact hk) e.symm
    · have := a3 k hk
      have := (World.ownsRow.lt h.rW k e.symm).2
      omega
  refine ⟨?_, ?_, ?_, ?_, ?_⟩
  · have := row_kept a1 b2 hAW
    simpa using this
  · simpa using b1
  · intro k hk e
    rcases b3 with b3 | b3
    · exact hAW k hk (by rw [← b3]; exact e.symm)
    · have h1 := b3 k e
      have h2 := (World.ownsRow.lt a1 k hk).2
      omega
  · intro x hx
    rcases List.mem_append.1 hx with hx | hx
    · exact ((h.el x hx).kept a2 rA).kept b2 rW
    · simp at hx
      subst hx
      exact (ht.kept a2 rA).kept b2 rW
  · rw [List.pairwise_append]
    refine ⟨h.inc, by simp, ?_⟩
    intro x hx y hy
    simp at hy
    subst hy
    exact hi x hx
theorem P1.rW1 {B : Nat} {w w1 : World} {vA vW : Value} {T : List Tr} (h : P1 B w vA vW T) (a2 : w.grownBy w1 vA.ownBlock) : w1.ownsRow B 41 1 vW T.length (T.map fun t => t.2.1) :=
  row_kept h.rW a2 (fun k hk e => h.ne k e.symm hk)

/-- The bytes of a string. -/
def nmz (s : ByteArray) : List Int := s.data.toList.map fun b => (b.toNat : Int)
theorem nmz_bytes (s : ByteArray) : isBytes (nmz s) := by
  intro z hz
  obtain ⟨b, _, rfl⟩ := List.mem_map.1 hz
  have := b.toNat_lt
  omega
theorem nmz_str (s : ByteArray) : s = strOfNums (nmz s) := by
  unfold strOfNums nmz
  rw [List.map_map]
  have h : ((fun n : Int => UInt8.ofNat n.toNat) ∘ fun b : UInt8 => (b.toNat : Int)) = id := by
    funext b
    simp
  rw [h, List.map_id]
theorem nmz_len (s : ByteArray) : (nmz s).length = s.size := by
  unfold nmz
  rw [List.length_map]
  rfl

/-- What both Points tell of a name. -/
theorem both_points (s : ByteArray) (x : Int) (hs : s.size ≤ maxLen) : ∃ (m : Nat) (us : List Nat) (c : Int), us.length = m ∧ m ≤ 512 ∧
    (∀ w, Calls Try.prog 20 #[.string s, .int .i64 x] w fun e w' => ∃ g, e = .returned (.tuple #[ev (g, m), .int .i64 c]) ∧ w.heap.size ≤ g + 1 ∧ (0 < w.heap.size → g < w'.heap.size) ∧ (0 < m → Box w' 34 g (uvals us).toArray) ∧ w.grownBy w' none) ∧
    (∀ w, Calls Try.prog 21 #[.string s, .int .i64 x] w fun e w' => ∃ v, e = .returned (.tuple #[v, .int .i64 c]) ∧ OwnU w.heap.size w' v us ∧ w.grownBy w' none) := by
  by_cases h : s.size < 1 ∨ 250 < s.size ∨ x < 1 ∨ 512 < x
  · refine ⟨0, [], 1, rfl, by omega, fun w => (points_20_no s x hs h w).mono ?_, fun w => (points_21_no s x hs h w).mono ?_⟩
    · rintro e w' ⟨rfl, rfl⟩
      exact ⟨w'.heap.size - 1, by rw [ev_nil], by omega, fun h => by omega, fun h => by omega, gb_refl _ _⟩
    · rintro e w' ⟨rfl, rfl⟩
      exact ⟨_, rfl, World.ownsRow_nil _ _ 34 1, gb_refl _ _⟩
  · obtain ⟨n, rfl⟩ : ∃ n : Nat, x = (n : Int) := ⟨x.toNat, by omega⟩
    have hl := nmz_len s
    have p1 := points_20x (nmz s) n (nmz_bytes s) (by omega) (by omega) (by omega) (by omega)
    have p2 := points_21 (nmz s) n (nmz_bytes s) (by omega) (by omega) (by omega) (by omega)
    rw [← nmz_str] at p1 p2
    refine ⟨n, pts (nmz s) n, 0, pts_len _ _, by omega, fun w => (p1 w).mono ?_, fun w => (p2 w).mono ?_⟩
    · rintro e w' ⟨g, rfl, hg, hb, hf⟩
      exact ⟨g, by rw [ev_some g n (by omega)], by omega, fun _ => hb.lt, fun _ => hb, hf⟩
    · rintro e w' ⟨v, rfl, ho, hf⟩
      exact ⟨v, rfl, ho, hf⟩

/-- Names that came in. -/
def NaIn (w : World) (a : Option Addr) (n : Nat) : Prop := ∀ i, i < n → ∃ b o, a = some ⟨b, o, none⟩ ∧ ∃ (s : ByteArray) (x : Int),
  w.cell? ⟨b, o + i * 2, none⟩ = some (.string s) ∧ w.cell? ⟨b, o + i * 2 + 1, none⟩ = some (.int .i64 x) ∧ s.size ≤ maxLen

end Go.Proofs.Ytcbogbohafmnhaa
