import Derived.Test.YtbbocbdoiealoaaGreatDoorROa
import Derived.Test.YtbbocbdoiealoaaGreatDoorRPbu
set_option linter.unusedVariables false
set_option linter.unusedSimpArgs false
namespace Go.Proofs.YtbbocbdoiealoaaGreatDoor
open Go.RowKit Go.Maps
theorem tm_rng {x : Bs} {t : Int} (h : tm x = some t) : -9223372036854775808 ≤ t ∧ t ≤ 9223372036854775807 := by
  unfold tm at h
  split at h
  · next v hv =>
    split at h
    · cases h
    · injection h with h
      subst h
      unfold Lib.parseIntB at hv
      split at hv
      · cases hv
      · simp only at hv
        split at hv
        · cases hv
        · cases hv
        · next u _ =>
          split at hv
          · cases hv
          · split at hv
            · cases hv
            · injection hv with hv
              subst hv
              next a b =>
              simp only [show (2 : Nat) ^ (64 - 1) = 9223372036854775808 from rfl] at a b
              split <;> omega
  · cases h
theorem rng_take1 {c d : Cmd} {a : UInt8} {x : Bs} (hc : RngP c) (h : take1 c a x = .inl d) : RngP d ∧ d.verb = c.verb := by
  obtain ⟨h1, h2, h3, h4⟩ := hc
  unfold take1 at h
  repeat' split at h
  all_goals first
    | (cases h; done)
    | (injection h with h; subst h; exact ⟨⟨h1, h2, h3, h4⟩, rfl⟩)
    | (injection h with h; subst h; next q _ => exact ⟨⟨(tm_rng q).1, (tm_rng q).2, h3, h4⟩, rfl⟩)
    | (injection h with h; subst h; next q => exact ⟨⟨h1, h2, nb_lim q, h4⟩, rfl⟩)
    | (injection h with h; subst h; next q => exact ⟨⟨h1, h2, h3, nb_lim q⟩, rfl⟩)
theorem rng_takeL {r : Rw} : ∀ {ws : List Bs} {i : Nat} {c d : Cmd}, RngP c → takeL r i c ws = .inl d → RngP d ∧ d.verb = c.verb
  | [], i, c, d, hc, h => by
    simp only [takeL] at h
    injection h with h
    subst h
    exact ⟨hc, rfl⟩
  | x :: t, i, c, d, hc, h => by
    simp only [takeL] at h
    split at h
    · next e he =>
      obtain ⟨h1, h2⟩ := rng_take1 hc he
      obtain ⟨h3, h4⟩ := rng_takeL h1 h
      exact ⟨h3, h4.trans h2⟩
    · cases h
theorem lookup_mem {x : Bs} {r : Rw} : ∀ {l : List (Bs × Rw)}, l.lookup x = some r → ∃ p ∈ l, p.2 = r
  | [], h => by cases h
  | (y, s) :: l, h => by
    rw [List.lookup_cons] at h
    split at h
    · injection h with h
      exact ⟨_, List.mem_cons_self, h⟩
    · obtain ⟨p, h1, h2⟩ := lookup_mem h
      exact ⟨p, List.mem_cons_of_mem _ h1, h2⟩
theorem lineS_rng {l : Bs} {c : Cmd} {n : Int} (h : lineS l = .inl (c, n)) : RngP c ∧ 1 ≤ c.verb ∧ c.verb ≤ 24 := by
  unfold lineS at h
  split at h
  · cases h
  split at h
  · cases h
  next x ws hs =>
  split at h
  · cases h
  next r hr =>
  split at h
  · next d hd =>
    injection h with h
    injection h with h _
    subst h
    unfold readS at hd
    simp only at hd
    generalize (if qt r ws = true then ws.dropLast else ws) = vs at hd
    generalize qt r ws = qb at hd
    split at hd
    · have key : ∃ e, takeL r 0 (cmd0 r.verb qb) vs = .inl e ∧ e = d := by
        revert hd
        generalize takeL r 0 (cmd0 r.verb qb) vs = z
        intro hd
        rcases z with e | e
        · simp only [fin] at hd
          split at hd
          · injection hd with hd
            exact ⟨e, rfl, hd⟩
          · cases hd
        · simp [fin] at hd
      obtain ⟨e, h1, rfl⟩ := key
      obtain ⟨h2, h3⟩ := rng_takeL (c := cmd0 r.verb qb) ⟨by simp [cmd0], by simp [cmd0], by simp [cmd0], by simp [cmd0]⟩ h1
      obtain ⟨p, hp, rfl⟩ := lookup_mem hr
      have hv : ∀ p ∈ rowL, 1 ≤ p.2.verb ∧ p.2.verb ≤ 24 := by decide
      have := hv p hp
      rw [h3]
      exact ⟨h2, this⟩
    · cases hd
  · cases h
def cntP (v : Int) (n : Nat) : Prop := (v ≤ 4 → 1 ≤ n) ∧ ((v = 15 ∨ v = 16 ∨ v = 17 ∨ v = 18 ∨ v = 19 ∨ v = 24) → n = 0) ∧ (4 < v → ¬ (v = 15 ∨ v = 16 ∨ v = 17 ∨ v = 18 ∨ v = 19 ∨ v = 24) → n = 1)
theorem MayP.cnt {i : Nat} {c : Cmd} {m : Nat} (h : MayP i c m) (hi : i < 24) : cntP c.verb c.keys.length := by
  have hsh : ∀ i, i < 24 → ((75 : UInt8) ∈ (dr i).shape ↔ ¬ (i = 14 ∨ i = 15 ∨ i = 16 ∨ i = 17 ∨ i = 18 ∨ i = 23)) := by decide
  have h1 := hsh i hi
  have h2 := h.keyed
  have h3 := h.one
  have hv := h.verb
  have hk : c.keys ≠ [] ↔ 0 < c.keys.length := by
    rw [List.length_pos_iff]
  have h4 : 0 < c.keys.length ↔ ¬ (i = 14 ∨ i = 15 ∨ i = 16 ∨ i = 17 ∨ i = 18 ∨ i = 23) := hk.symm.trans (h2.trans h1)
  refine ⟨fun h => ?_, fun h => ?_, fun h h' => ?_⟩
  · have := h4.2 (by omega); omega
  · have h5 : ¬ 0 < c.keys.length := fun e => h4.1 e (by omega)
    omega
  · have := h4.2 (by omega)
    have := h3 (by omega)
    omega
set_option maxRecDepth 100000 in
set_option maxHeartbeats 4000000 in
theorem counted_44 {w : World} {v : Int} {n : Nat} (h1 : 1 ≤ v) (h2 : v ≤ 24) (h : cntP v n) : Calls Tryz.prog 44 #[.int .i64 v, .int .i64 (n : Int)] w fun e w' => e = .returned (.bool true) ∧ w' = w := by
  obtain ⟨a, b, c⟩ := h
  have hv : v = 1 ∨ v = 2 ∨ v = 3 ∨ v = 4 ∨ v = 5 ∨ v = 6 ∨ v = 7 ∨ v = 8 ∨ v = 9 ∨ v = 10 ∨ v = 11 ∨ v = 12 ∨ v = 13 ∨ v = 14 ∨ v = 15 ∨ v = 16 ∨ v = 17 ∨ v = 18 ∨ v = 19 ∨ v = 20 ∨ v = 21 ∨ v = 22 ∨ v = 23 ∨ v = 24 := by omega
  have key : (v ≤ 4 ∧ 1 ≤ n) ∨ n = 0 ∧ (v = 15 ∨ v = 16 ∨ v = 17 ∨ v = 18 ∨ v = 19 ∨ v = 24) ∨ n = 1 ∧ 4 < v ∧ ¬ (v = 15 ∨ v = 16 ∨ v = 17 ∨ v = 18 ∨ v = 19 ∨ v = 24) := by
    by_cases q : v ≤ 4
    · exact .inl ⟨q, a q⟩
    · by_cases q2 : v = 15 ∨ v = 16 ∨ v = 17 ∨ v = 18 ∨ v = 19 ∨ v = 24
      · exact .inr (.inl ⟨b q2, q2⟩)
      · exact .inr (.inr ⟨c (by omega) q2, by omega, q2⟩)
  clear a b c
  rcases key with ⟨q, hn⟩ | ⟨rfl, q⟩ | ⟨rfl, q1, q2⟩
  · have hd : (1 : Int) ≤ (n : Int) := by omega
    have hv' : v = 1 ∨ v = 2 ∨ v = 3 ∨ v = 4 := by omega
    clear hv q h1 h2
    rcases hv' with rfl | rfl | rfl | rfl <;>
      (go_enter Tryz.func44, Tryz.ntmps44
       go_wp2
       go_ret
       exact ⟨by first | (simp; done) | (simp; omega), rfl⟩)
  · clear hv h1 h2
    rcases q with rfl | rfl | rfl | rfl | rfl | rfl <;>
      (go_enter Tryz.func44, Tryz.ntmps44
       go_wp2
       go_ret
       exact ⟨by simp, rfl⟩)
  · have hv' : v = 5 ∨ v = 6 ∨ v = 7 ∨ v = 8 ∨ v = 9 ∨ v = 10 ∨ v = 11 ∨ v = 12 ∨ v = 13 ∨ v = 14 ∨ v = 20 ∨ v = 21 ∨ v = 22 ∨ v = 23 := by omega
    clear hv q1 q2 h1 h2
    rcases hv' with rfl | rfl | rfl | rfl | rfl | rfl | rfl | rfl | rfl | rfl | rfl | rfl | rfl | rfl <;>
      (go_enter Tryz.func44, Tryz.ntmps44
       go_wp2
       go_ret
       exact ⟨by simp, rfl⟩)
set_option maxHeartbeats 1000000 in
theorem kd_45 (s : Bs) (hs : s.length ≤ 4611686018427387904) (w : World) :
    Calls Tryz.prog 45 #[sv s] w fun e w' => e = .returned (.bool (plain s && decide (1 ≤ s.length) && decide (s.length ≤ 250))) ∧ w' = w := by
  go_enter Tryz.func45, Tryz.ntmps45
  go_wp2
  go_loopw [3] (fun v wr => ∃ k : Nat, k ≤ s.length ∧ v = .int .i64 k ∧ wr = w ∧ plain (s.take k) = true) (fun v _ => s.length - (intOf v).toNat)
  case atStart => exact ⟨0, by omega, rfl, rfl, rfl⟩
  case round =>
    obtain ⟨k, hk, rfl, rfl, hp⟩ := hrel
    have hlt : k < s.length ∨ k = s.length := by omega
    rcases hlt with hlt | rfl
    · have d1 : decide ((k : Int) < (s.length : Int)) = true := decide_eq_true (by omega)
      obtain ⟨b, hb⟩ : ∃ b, s.getD k 0 = b := ⟨_, rfl⟩
      have hg : ∀ h : k < (ByteArray.mk s.toArray).size, (ByteArray.mk s.toArray)[k] = b := fun h => (ba_get s k h).trans hb
      have HT := plain_take s k hlt
      have HF : (decide (32 < b) && decide (b ≠ 127)) = false → plain s = false := by
        intro h
        have h2 : plain s = (plain (s.take (k + 1)) && plain (s.drop (k + 1))) := by
          have h3 : plain (s.take (k + 1) ++ s.drop (k + 1)) = (plain (s.take (k + 1)) && plain (s.drop (k + 1))) := List.all_append
          rwa [List.take_append_drop] at h3
        rw [h2, HT, hb, h]; simp
      rw [hb, hp] at HT
      clear hp hb
      go_wp2
      all_goals first
        | (refine ⟨⟨k + 1, by omega, by simp, trivial, ?_⟩, by simp [intOf]; omega⟩
           rw [HT]
           have h3 : 32 < b := UInt8.lt_iff_toNat_lt.2 (by have e : (32 : UInt8).toNat = 32 := rfl; omega)
           have h4 : b ≠ 127 := by rintro rfl; simp_all
           simp [h3, h4]
           done)
        | (rename_i h1
           go_ret
           have h3 : ¬ 32 < b := fun h => by have : (32 : UInt8).toNat < b.toNat := UInt8.lt_iff_toNat_lt.1 h; have e : (32 : UInt8).toNat = 32 := rfl; omega
           rw [HF (by simp [h3])]
           exact ⟨rfl, rfl⟩)
        | (rename_i h1 h2
           go_ret
           have h4 : b = 127 := by
             apply UInt8.toNat_inj.1
             show b.toNat = 127
             first | (have := beq_iff_eq.1 h2; omega) | (have := beq_iff_eq.1 h1; omega) | omega | (simp at h1 h2; omega)
           rw [HF (by simp [h4])]
           exact ⟨rfl, rfl⟩)
    · rw [List.take_length] at hp
      go_wp2
      all_goals
        rename_i h1
        go_ret
        refine ⟨congrArg (fun b => Ending.returned (Value.bool b)) ?_, rfl⟩
      · rw [hp, decide_eq_true (p := 1 ≤ s.length) (by omega), Bool.true_and, Bool.true_and]
        exact decide_eq_decide.2 (by omega)
      · rw [decide_eq_false (p := 1 ≤ s.length) (by omega)]
        rfl
theorem keyed_45 {w : World} {k : Bs} (h : keyP k) : Calls Tryz.prog 45 #[sv k] w fun e w' => e = .returned (.bool true) ∧ w' = w := by
  obtain ⟨h0, h1, h2⟩ := h
  have hl : 1 ≤ k.length := List.length_pos_iff.2 h0
  refine (kd_45 k (by omega) w).mono ?_
  rintro e w' ⟨rfl, hw⟩
  rw [h2, decide_eq_true hl, decide_eq_true h1]
  exact ⟨rfl, hw⟩
set_option maxRecDepth 100000 in
set_option maxHeartbeats 4000000 in
theorem texts_43 {w : World} {k : Int} {t : Bs} {p : Int} (h : TxP k t p) : Calls Tryz.prog 43 #[.agg #[.int .i64 k, sv t, .int .i64 p]] w fun e w' => e = .returned (.bool true) ∧ w.grownBy w' none := by
  rcases h with ⟨rfl, rfl, rfl⟩ | ⟨rfl | rfl, rfl, rfl⟩ | ⟨ht, rfl, h1, h2⟩
  · go_enter Tryz.func43, Tryz.ntmps43
    go_wp2
    go_ret
    exact ⟨by first | rfl | (simp; done), gb_alloc (gb_refl _ _) _⟩
  · go_enter Tryz.func43, Tryz.ntmps43
    go_wp2
    go_ret
    exact ⟨by first | rfl | (simp; done), gb_alloc (gb_refl _ _) _⟩
  · go_enter Tryz.func43, Tryz.ntmps43
    go_wp2
    go_ret
    exact ⟨by first | rfl | (simp; done), gb_alloc (gb_refl _ _) _⟩
  · have d1 : decide ((-1 : Int) ≤ p) = true := decide_eq_true h1
    have d2 : decide (p ≤ 2147483647) = true := decide_eq_true h2
    simp only [T7, List.mem_cons, List.not_mem_nil, or_false] at ht
    rcases ht with rfl | rfl | rfl | rfl | rfl | rfl | rfl <;>
      (go_enter Tryz.func43, Tryz.ntmps43
       go_wp2
       go_ret
       exact ⟨by first | rfl | (simp; done) | (simp; omega), gb_alloc (gb_refl _ _) _⟩)
end Go.Proofs.YtbbocbdoiealoaaGreatDoor
namespace Go.Proofs.YtbbocbdoiealoaaGreatDoor
structure PosI (F : Fd) (A : Bs) : Prop where
  tk : F.taken = A.length
  kp : ∃ pre, A = pre ++ F.kept
  no : F.st = 4 ∨ F.st = 5 → F.kept = []
  dt : F.s.data = []
  k3 : F.st = 3 → F.head < F.kept.length
  k2 : F.st = 1 ∨ F.st = 2 → F.head ≤ F.kept.length
  le : F.st ≤ 5
def DatP (A : Bs) (s : Stp) : Prop := s.data = [] ∨ (s.to ≤ A.length ∧ s.data.length + 2 ≤ s.to ∧ (A.drop (s.to - 2 - s.data.length)).take s.data.length = s.data)
theorem DatP.more {A : Bs} {s : Stp} (h : DatP A s) (B : Bs) : DatP (A ++ B) s := by
  rcases h with h | ⟨h1, h2, h3⟩
  · exact .inl h
  · refine .inr ⟨by rw [List.length_append]; omega, h2, ?_⟩
    rw [List.drop_append_of_le_length (by omega), List.take_append_of_le_length (by rw [List.length_drop]; omega)]
    exact h3
theorem pos_tell {F : Fd} {A : Bs} (h1 : F.taken = A.length) (h2 : DatP A ⟨F.s.cmd, F.s.data, F.s.large, F.s.wk, F.s.wt, F.s.wp, F.frm, F.taken⟩) : PosI F.tell.1 A ∧ ∀ s ∈ F.tell.2, DatP A s := by
  refine ⟨⟨h1, ⟨A, by simp [Fd.tell]⟩, fun _ => rfl, rfl, fun h => ?_, fun h => ?_, ?_⟩, fun s hs => ?_⟩
  · simp only [Fd.tell] at h
    split at h <;> omega
  · simp only [Fd.tell] at h
    split at h <;> omega
  · simp only [Fd.tell]
    split <;> omega
  · simp only [Fd.tell, List.mem_singleton] at hs
    subst hs
    exact h2
theorem pos_pass {F : Fd} {A : Bs} {s : Stp} {n : Nat} (h1 : F.taken = A.length) (hs : s.data = []) : PosI (F.pass s n) A :=
  ⟨h1, ⟨A, by simp [Fd.pass]⟩, fun _ => rfl, hs, fun h => by simp [Fd.pass] at h, fun h => by simp [Fd.pass] at h, by simp [Fd.pass]⟩
theorem pos_skip {F : Fd} {A : Bs} {b : UInt8} (hst : F.st = 4) (h1 : F.taken = A.length) (hk : F.kept = []) (hs : F.s.data = []) : PosI (F.skip b).1 A ∧ ∀ s ∈ (F.skip b).2, DatP A s := by
  unfold Fd.skip
  split
  · exact ⟨⟨h1, ⟨A, by simp [hk]⟩, fun _ => hk, hs, fun h => by simp only at h; omega, fun h => by simp only at h; omega, by simp only; omega⟩, by simp⟩
  · split
    · exact pos_tell h1 (.inl hs)
    · exact ⟨⟨h1, ⟨A, by simp [hk]⟩, fun _ => hk, hs, fun (h : F.st = 3) => by omega, fun (h : F.st = 1 ∨ F.st = 2) => by omega, (by omega : F.st ≤ 5)⟩, by simp⟩
theorem pos_await {F : Fd} {A : Bs} {m : Nat} (h1 : F.taken = A.length) (hk : ∃ pre, A = pre ++ F.kept) (hs : F.s.data = []) (hh : F.head ≤ F.kept.length) : PosI (F.await m) A := by
  refine ⟨h1, hk, fun h => ?_, hs, fun h => ?_, fun _ => hh, ?_⟩
  rotate_right
  · simp only [Fd.await]
    split <;> omega
  · simp only [Fd.await] at h
    split at h <;> omega
  · simp only [Fd.await] at h
    split at h <;> omega
theorem pos_rd {F : Fd} {A : Bs} (hst : F.st = 0) (h1 : F.taken = A.length) (hk : ∃ pre, A = pre ++ F.kept) : PosI (Fd.end1 F.rd).1 A ∧ ∀ s ∈ (Fd.end1 F.rd).2, DatP A s := by
  unfold Fd.rd
  split
  · split
    · simp only [Fd.end1, if_true]
      exact pos_tell h1 (.inl rfl)
    · split
      · simp only [Fd.end1]
        exact ⟨pos_pass h1 rfl, by simp⟩
      · exact ⟨pos_await h1 hk rfl (Nat.le_refl _), by simp [Fd.end1]⟩
  · split
    · simp only [Fd.end1, if_true]
      exact pos_tell h1 (.inl rfl)
    · simp only [Fd.end1]
      exact ⟨pos_pass h1 rfl, by simp⟩
theorem suf {A pre k : Bs} (h : A = pre ++ k) (b : UInt8) : ∃ p, A ++ [b] = p ++ (k ++ [b]) := ⟨pre, by rw [h]; simp⟩
theorem pos_fb {F : Fd} {A : Bs} (h : PosI F A) (b : UInt8) : PosI (F.fb b).1 (A ++ [b]) ∧ ∀ s ∈ (F.fb b).2, DatP (A ++ [b]) s := by
  obtain ⟨ht, ⟨pre, hp⟩, hn, hd, h3, h2, hle⟩ := h
  have ht' : (F.tk 1).taken = (A ++ [b]).length := by simp [Fd.tk, ht]
  unfold Fd.fb
  split
  · next h0 =>
    split
    · exact pos_rd h0 ht' (suf hp b)
    · split
      · exact ⟨pos_pass ht' rfl, by simp⟩
      · exact ⟨⟨ht', suf hp b, fun (h : F.st = 4 ∨ F.st = 5) => by omega, hd, fun (h : F.st = 3) => by omega, fun (h : F.st = 1 ∨ F.st = 2) => by omega, (by omega : F.st ≤ 5)⟩, by simp⟩
  · split
    · next q1 => exact ⟨pos_await (F := (F.tk 1).put [b]) ht' (suf hp b) hd (by have := h2 (.inl q1); simp only [Fd.put, Fd.tk, List.length_append]; omega), by simp⟩
    · split
      · next q2 =>
        split
        · have hq := h2 (.inr q2)
          exact ⟨⟨ht', suf hp b, fun h => by simp at h, hd, fun _ => by simp only [Fd.put, Fd.tk, List.length_append, List.length_cons, List.length_nil]; omega, fun h => by simp at h, by simp⟩, by simp⟩
        · exact pos_skip rfl ht' rfl rfl
      · split
        · next h3' =>
          split
          · refine pos_tell ht' ?_
            have hh := h3 h3'
            refine .inr ⟨?_, ?_, ?_⟩
            · show (F.tk 1).taken ≤ _
              rw [ht']
              exact Nat.le_refl _
            · show ((F.kept.drop F.head).dropLast).length + 2 ≤ (F.tk 1).taken
              rw [ht', hp]
              simp only [List.length_dropLast, List.length_drop, List.length_append, List.length_cons, List.length_nil]
              omega
            · show ((A ++ [b]).drop ((F.tk 1).taken - 2 - ((F.kept.drop F.head).dropLast).length)).take ((F.kept.drop F.head).dropLast).length = (F.kept.drop F.head).dropLast
              have e1 : (F.tk 1).taken - 2 - ((F.kept.drop F.head).dropLast).length = pre.length + F.head := by
                rw [ht', hp]
                simp only [List.length_dropLast, List.length_drop, List.length_append, List.length_cons, List.length_nil]
                omega
              have e2 : (pre ++ (F.kept ++ [b])).drop (pre.length + F.head) = (F.kept ++ [b]).drop F.head := by
                rw [← List.drop_drop, List.drop_left]
              rw [e1, hp, List.append_assoc, e2, List.drop_append_of_le_length (by omega)]
              generalize hK : F.kept.drop F.head = K
              have hKl : 0 < K.length := by rw [← hK, List.length_drop]; omega
              rw [List.take_append_of_le_length (by rw [List.length_dropLast]; omega), List.length_dropLast, ← List.dropLast_eq_take]
          · exact pos_skip rfl ht' rfl rfl
        · split
          · next h4 => exact pos_skip h4 ht' (hn (.inl h4)) hd
          · next a0 a1 a2 a3 a4 =>
            have h5 : F.st = 5 := by omega
            have hk := hn (.inr h5)
            exact ⟨⟨ht', ⟨A ++ [b], by simp [Fd.tk, hk]⟩, fun _ => hk, hd, fun h => absurd h a3, fun h => h2 h, hle⟩, by simp⟩
theorem pos_run : ∀ (l : Bs) {F : Fd} {A : Bs}, PosI F A → ∀ s ∈ (F.run l).2, DatP (A ++ l) s
  | [], F, A, _, s, hs => by simp [Fd.run] at hs
  | b :: t, F, A, h, s, hs => by
    obtain ⟨h1, h2⟩ := pos_fb h b
    simp only [Fd.run] at hs
    have e : A ++ b :: t = (A ++ [b]) ++ t := by simp
    rw [e]
    rcases List.mem_append.1 hs with hs | hs
    · exact (h2 s hs).more t
    · exact pos_run t h1 s hs
theorem AlR.dat {w wr : World} {L : Nat} {raw : Bs} {q : List Tld} {v : Value} {left : Int} (h : AlR w L raw q v left wr) : ∀ x ∈ q, DatP raw x.s := fun x hx =>
  pos_run raw (F := fl L 0) (A := []) ⟨rfl, ⟨[], rfl⟩, fun _ => rfl, rfl, (fun h => by cases h), fun _ => Nat.le_refl _, Nat.zero_le _⟩ x.s (by rw [h.run]; exact List.mem_map_of_mem hx)
end Go.Proofs.YtbbocbdoiealoaaGreatDoor
