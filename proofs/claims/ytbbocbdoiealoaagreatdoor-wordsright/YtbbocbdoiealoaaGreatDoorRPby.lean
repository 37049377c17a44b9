import Derived.Test.YtbbocbdoiealoaaGreatDoorRPbp
import Derived.Test.YtbbocbdoiealoaaGreatDoorRPar
import Derived.Test.YtbbocbdoiealoaaGreatDoorRPbr
import Derived.Test.YtbbocbdoiealoaaGreatDoorROd
set_option linter.unusedVariables false
set_option linter.unusedSimpArgs false
namespace Go.Proofs.YtbbocbdoiealoaaGreatDoor
open Go.ChangeShapes Go.WideShapes Go.ChangeAt Go.RowKit Go.Maps
set_option maxRecDepth 100000 in
set_option maxHeartbeats 4000000 in
theorem clip_27 {w : World} {ao : Option Addr} {c : Nat} {l : Bs} (hc : 65536 < l.length → l.length ≤ c ∧ ∃ a, ao = some a) (hn : l.length ≤ 9223372036854775807) :
    Calls Tryz.prog 27 #[.slice ao l.length c] w fun e w' => e = .returned (.slice ao (l.take 65536).length c) ∧ w' = w := by
  by_cases hb : 65536 < l.length
  · obtain ⟨h2, a, rfl⟩ := hc hb
    have ht : (l.take 65536).length = 65536 := by rw [List.length_take]; omega
    rw [ht]
    have d1 : decide ((65536 : Int) < (l.length : Int)) = true := decide_eq_true (by omega)
    have d2 : (65536 : Int) ≤ (c : Int) := by omega
    clear ht hc
    go_enter Tryz.func27, Tryz.ntmps27
    go_wp2
    go_ret
    exact ⟨rfl, rfl⟩
  · have ht : l.take 65536 = l := List.take_of_length_le (by omega)
    rw [ht]
    have d1 : decide ((65536 : Int) < (l.length : Int)) = false := decide_eq_false (by omega)
    clear ht hc
    go_enter Tryz.func27, Tryz.ntmps27
    go_wp2
    go_ret
    exact ⟨rfl, rfl⟩
theorem ck_clip {w : World} {X : Nat → Prop} {ao : Option Addr} {n c : Nat} {l : Bs} (hv : Ck w X (.slice ao n c) l) (k : Nat) : n = l.length ∧ (k < l.length → l.length ≤ c ∧ ∃ a, ao = some a) ∧ Ck w X (.slice ao (l.take k).length c) (l.take k) := by
  rcases hv with ⟨rfl, e⟩ | ⟨g, o, c', e, h2, h3, h4, h5, h6⟩
  · injection e with e1 e2 e3
    subst e1 e2 e3
    exact ⟨rfl, fun h => by simp at h, .inl ⟨by simp, by simp⟩⟩
  · injection e with e1 e2 e3
    subst e1 e2 e3
    refine ⟨rfl, fun _ => ⟨h2, _, rfl⟩, .inr ⟨g, o, c, rfl, by rw [List.length_take]; omega, h3, h4, h5, fun i x hx => ?_⟩⟩
    rw [List.getElem?_take] at hx
    split at hx
    · exact h6 i x hx
    · cases hx
theorem list2w {α : Type} {l : List α} {a0 a1 : α} (h : l.length = 2) (h0 : l[0]? = some a0) (h1 : l[1]? = some a1) : l = [a0, a1] := by
  match l, h with
  | [_, _], _ => simp at h0 h1; simp [h0, h1]
theorem typesRow11 : Tryz.prog.cellTypes Tryz.prog.depth 56 = some [38, 3] := by kernel_rfl
section
variable {H : Type} {enc : TypeId × Value → H} {w : World} {base : Nat} {spare : Nat → Bool} {held : Bool}
set_option maxRecDepth 100000 in
theorem open_row11 {r : Reach} {b0 : Nat} {v : Value} {d : DataW H} {p : List MemPlace} (hv : Value.okWide Tryz.prog w r b0 56 v) (h : DataW.Trod enc Tryz.prog w base spare held 56 v d p) :
    ∃ ra rc lim raw, v = .agg #[.slice ra (raw : Bs).length rc, .int .i64 lim] ∧ Ck w (fun _ => False) (.slice ra raw.length rc) raw ∧ lim ≤ 9223372036854775807 ∧ -9223372036854775808 ≤ lim ∧ raw.length ≤ 9223372036854775807 := by
  have hv2 := hv
  simp only [Value.okWide, Tryz.underlying56] at hv2
  obtain ⟨cs, rfl, hs, ts, hts, _, hrow⟩ := hv2
  rw [typesRow11] at hts
  cases hts
  obtain ⟨fuel, hf⟩ := h
  have hf' : DataW.trod enc Tryz.prog w base spare held fuel 56 cs.toList = some (d, p) := by simpa [Value.cells] using hf
  obtain ⟨y1, e1, w1⟩ := field_int 1 Tryz.underlying56 hf' rfl Tryz.underlying3 (by kernel_rfl)
  obtain ⟨xs, n, _, ex, hl, hlen, hff⟩ := DataW.trod_struct Tryz.underlying56 hf'
  have hok : ∀ i t v, ([38, 3] : List TypeId)[i]? = some t → i < 2 → (cs.toList.drop i).take 1 = [v] → Cell.okWide Tryz.prog w r b0 t v := by
    intro i t v ht hi he
    obtain ⟨u, hu, hok⟩ := hrow i v (by simpa using one_of he)
    have : u = t := by
      have e : i % 2 = i := Nat.mod_eq_of_lt hi
      simp only [List.length_cons, List.length_nil] at hu
      rw [show (0 + 1 + 1 : Nat) = 2 from rfl, e, ht] at hu
      injection hu with hu
      exact hu.symm
    rw [← this]; exact hok
  have h0 : DataW.trod enc Tryz.prog w base spare held n 38 ((cs.toList.drop 0).take (Tryz.prog.cellsOf 38)) = xs[0]? := hff 0 _ rfl
  have hxl : xs.length = 2 := by rw [hlen]; rfl
  rw [List.getElem?_eq_getElem (by omega), show Tryz.prog.cellsOf 38 = 1 by kernel_rfl] at h0
  obtain ⟨ra, rc, raw, q0, k0⟩ := open_by h0 (fun v hv => hok 0 _ v rfl (by decide) hv)
  have hb := bounds_i64 w1
  have hcl : cs.toList.length = 2 := by
    rw [hl]
    kernel_rfl
  have hcs : cs.toList = [.slice ra raw.length rc, .int .i64 y1] := list2w hcl (one_of q0) e1
  have hrl : raw.length ≤ 9223372036854775807 := by
    rcases k0 with ⟨rfl, _⟩ | ⟨g, o, c, _, h2, h3, _⟩
    · simp
    · omega
  refine ⟨ra, rc, y1, raw, ?_, k0, hb.2, hb.1, hrl⟩
  rw [← hcs]
end
end Go.Proofs.YtbbocbdoiealoaaGreatDoor
namespace Go.Proofs.YtbbocbdoiealoaaGreatDoor
open Go.RowKit Go.Maps
theorem takeL_fl {r : Rw} {N : Nat} : ∀ {ws : List Bs} {i : Nat} {c d : Cmd}, takeL r i c ws = .inl d → (∀ x ∈ ws, x.length ≤ N) → (∀ f ∈ c.mt, f.arg.length ≤ N) → ∀ f ∈ d.mt, f.arg.length ≤ N
  | [], i, c, d, h, _, hc => by
    simp only [takeL] at h
    injection h with h
    subst h
    exact hc
  | x :: ws, i, c, d, h, hx, hc => by
    simp only [takeL] at h
    cases h1 : take1 c (lett r i) x with
    | inr e => rw [h1] at h; cases h
    | inl d1 =>
      rw [h1] at h
      exact takeL_fl h (fun y hy => hx y (List.mem_cons_of_mem _ hy)) (take1_fl h1 (hx x (List.mem_cons_self)) hc)
theorem readS_fl {r : Rw} {ws : List Bs} {c : Cmd} {N : Nat} (h : readS r ws = .inl c) (hx : ∀ x ∈ ws, x.length ≤ N) : ∀ f ∈ c.mt, f.arg.length ≤ N := by
  simp only [readS] at h
  have hv : ∀ x ∈ (if qt r ws then ws.dropLast else ws), x.length ≤ N := by
    intro x hm
    split at hm
    · exact hx x (List.dropLast_subset ws hm)
    · exact hx x hm
  generalize (if qt r ws then ws.dropLast else ws) = vs at h hv
  split at h
  · cases h1 : takeL r 0 (cmd0 r.verb (qt r ws)) vs with
    | inr e => rw [h1] at h; simp only [fin] at h; cases h
    | inl d =>
      rw [h1] at h
      simp only [fin] at h
      have h2 := takeL_fl h1 hv (fun f hf => by simp [cmd0] at hf)
      split at h
      · injection h with h
        subst h
        exact h2
      · cases h
  · cases h
theorem lineS_fl {l : Bs} {c : Cmd} {n : Int} (h : lineS l = .inl (c, n)) : ∀ f ∈ c.mt, f.arg.length ≤ 2048 := by
  have hll := (lineS_len h).2.2
  unfold lineS at h
  split at h
  · cases h
  · cases hs : spl [] l with
    | nil => rw [hs] at h; cases h
    | cons x ws =>
      have hw : ∀ y ∈ ws, y.length ≤ 2048 := fun y hy => by
        have := spl_len l [] y (by rw [hs]; exact List.mem_cons_of_mem _ hy)
        simp only [List.length_nil] at this
        omega
      rw [hs] at h
      simp only at h
      cases hr : rowS x with
      | none => rw [hr] at h; cases h
      | some r =>
        rw [hr] at h
        simp only at h
        cases hd : readS r ws with
        | inr e => rw [hd] at h; cases h
        | inl c' =>
          rw [hd] at h
          injection h with h
          injection h with h1 h2
          subst h1
          exact readS_fl hd hw
theorem bls_few {N : Nat} : ∀ (l : List Bs), (∀ x ∈ l, x.length ≤ N) → (bls l).length ≤ l.length * (N + 1)
  | [], _ => by simp [bls]
  | x :: l, h => by
    have h1 := bls_few l (fun y hy => h y (List.mem_cons_of_mem _ hy))
    have h2 := h x List.mem_cons_self
    rw [bls_cons]
    simp only [List.length_cons, List.length_append, Nat.add_mul]
    omega
structure ToldP (c : Cmd) (m : Nat) : Prop where
  r : RngP c
  v1 : 1 ≤ c.verb
  v2 : c.verb ≤ 24
  cnt : cntP c.verb c.keys.length
  fl : c.flags ≤ 4294967295
  mt : flS c.verb [] c.mt = []
  what : c.what ≠ [] → c.verb = 19
  keys : ∀ k ∈ c.keys, keyP k
  kn : c.keys.length ≤ 2049
  mn : c.mt.length ≤ 2049
  fa : ∀ f ∈ c.mt, f.arg.length ≤ 2048
  ln : ∀ i, i < 24 → (lnB i c m).length ≤ 1000000000
theorem told_P {l : Bs} {c : Cmd} {n : Int} (h : lineS l = .inl (c, n)) {m : Nat} (hm : (m : Int) = max n 0) : ToldP c m := by
  obtain ⟨hr, v1, v2⟩ := lineS_rng h
  obtain ⟨kn, mn, _⟩ := lineS_len h
  have hn := (lineS_ok h).2
  have hv : c.verb = (((c.verb - 1).toNat : Nat) : Int) + 1 := by omega
  have hM := (told_may h (by omega) hv hm).1
  have hk : ∀ k ∈ c.keys, k.length ≤ 250 := fun k hk => (hM.keys k hk).2.1
  have hf := lineS_fl h
  have hw : c.what.length ≤ 5 := by
    by_cases h0 : c.what = []
    · rw [h0]; simp
    · rw [(hM.what h0).2]; decide
  refine ⟨hr, v1, v2, hM.cnt (by omega), hM.flags, hM.mt, fun h0 => ?_, hM.keys, kn, mn, hf, fun i hi => ?_⟩
  · have := (hM.what h0).1
    omega
  · have h1 := bls_few c.keys hk
    have h2 := bls_few (N := 2049) (c.mt.map fw) (fun x hx => by
      obtain ⟨f, hf1, rfl⟩ := List.mem_map.1 hx
      have := hf f hf1
      simp only [fw]
      simp
      omega)
    have h3 : c.mt.length ≤ 13 := flS_13 hM.mt
    have e1 : c.keys.length * (250 + 1) ≤ 2049 * 251 := Nat.mul_le_mul kn (by omega)
    have e2 : (c.mt.map fw).length * (2049 + 1) ≤ 13 * 2050 := Nat.mul_le_mul (by rw [List.length_map]; exact h3) (by omega)
    exact lnB_bulk hi hr (by have := hM.flags; omega) (by omega) (by omega) (by omega) (by omega)
end Go.Proofs.YtbbocbdoiealoaaGreatDoor
