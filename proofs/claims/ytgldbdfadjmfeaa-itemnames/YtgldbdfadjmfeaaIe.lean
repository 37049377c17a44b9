/-
  Pieces of a chunk laid over.
-/
import Derived.Test.YtgldbdfadjmfeaaId
namespace Go.Proofs.Ytgldbdfadjmfeaa
open Go.RowKit
set_option linter.unusedVariables false

theorem Has.kept {w w' : World} {a : Option Addr} {n : Nat} {ys : List Int} (h : Has w a n ys) {row : Option Nat} (hf : w.grownBy w' row) (hne : ∀ k, a.map (·.block) = some k → some k ≠ row) : Has w' a n ys := by
  refine ⟨h.1, fun hn => ?_⟩
  obtain ⟨b, o, rfl, hc⟩ := h.2 hn
  refine ⟨b, o, rfl, fun i hi => ?_⟩
  have hlt := World.block_lt_of_cell? _ _ (hc i hi)
  rw [← hc i hi]
  exact World.cell?_of_block (w := w) (w' := w') (a := ⟨b, o + i, none⟩) (hf.block b hlt (hne b rfl))
theorem Has.kept0 {w w' : World} {a : Option Addr} {n : Nat} {ys : List Int} (h : Has w a n ys) (hf : w.grownBy w' none) : Has w' a n ys := h.kept hf (fun _ _ => by simp)

/-- The place of a chunk. -/
structure Pl (ps N pl cap : Nat) : Prop where
  hb : pl ≤ 1073741824 ∧ cap ≤ 1048576
  th : ∀ o n : Nat, o + n ≤ cap → There ps N ((pl + o : Nat) : Int) n
  le : pl + cap ≤ N
theorem pl_of {w : World} {sb : Nat} {F : Nat → Prop} {B : Bl} {b c d e f g : Int} {A : Ab} {zs : List Int} (h : IsS w sb F B b c d e f g A zs) (hA : Fit1 A) {p k : Nat} (hp : p < A.np) (hk : k < A.each (A.own p)) : Pl A.ps zs.length (A.place p k) (A.sz (A.own p)) := by
  have ho := hA.on p hp
  have h1 := hA.hi _ ho
  have h2 := hA.ps0
  refine ⟨⟨(place_le hA hp hk).1, by omega⟩, fun o n hon => there_of h hA hp hk hon, ?_⟩
  obtain ⟨t1, t2, t3, t4⟩ := there_of h hA hp hk (o := 0) (n := A.sz (A.own p)) (by omega)
  omega

def ns (k v : Nat) : List Nat := [4, 4, 4, 4, 8, 8, 8, 4, 1, 1, 1, 1, 4, 4, k, v, 2]
theorem ns_sum (k v : Nat) : (ns k v).sum = 58 + k + v := by simp [ns]; omega
theorem lens_set : ∀ (L : List (List Int)) (i : Nat) (ys : List Int), (∀ n, (lens L)[i]? = some n → n = ys.length) → lens (L.set i ys) = lens L
  | [], i, ys, h => by simp
  | a :: L, 0, ys, h => by
    have := h a.length (by simp [lens])
    simp [lens, this]
  | a :: L, i + 1, ys, h => by
    have ih := lens_set L i ys (fun n hn => h n (by simpa [lens] using hn))
    simp only [lens] at ih
    simp [lens, ih]
theorem lens_get (L : List (List Int)) (i n : Nat) (h : (lens L)[i]? = some n) : ∃ s, L[i]? = some s ∧ s.length = n := by
  simp only [lens, List.getElem?_map] at h
  cases e : L[i]? with
  | none => simp [e] at h
  | some s => rw [e] at h; exact ⟨s, rfl, by simpa using h⟩

/-- One piece is laid over. -/
theorem piece_lay {zs : List Int} {pl k v cap : Nat} (hle : pl + cap ≤ zs.length) (hcap : 58 + k + v ≤ cap) {L : List (List Int)} (hL : lens L = ns k v) (i : Nat) (ys : List Int) (x : Nat) (hx : Hid (((ns k v).take i).sum = x)) (hn : (ns k v)[i]? = some ys.length) :
    lay (lay zs pl L.flatten) (pl + x) ys = lay zs pl (L.set i ys).flatten ∧ x + ys.length ≤ 58 + k + v := by
  rw [← hL] at hn
  obtain ⟨s, hs, hl⟩ := lens_get L i _ hn
  have h1 := lay_seg L i s ys hs hl.symm
  have hfl : L.flatten.length = 58 + k + v := by rw [lens_flat, hL, ns_sum]
  have hsum : x + ys.length ≤ 58 + k + v := by
    have e1 := hx.out
    rw [← hL] at e1
    have h2 : (lens L) = (lens L).take i ++ (lens L).drop i := (List.take_append_drop _ _).symm
    have hlt : i < (lens L).length := by
      rcases Nat.lt_or_ge i (lens L).length with h | h
      · exact h
      · rw [List.getElem?_eq_none h] at hn; simp at hn
    have h3 : (lens L).drop i = ys.length :: (lens L).drop (i + 1) := by
      rw [List.drop_eq_getElem_cons hlt]
      congr 1
      rw [List.getElem?_eq_getElem hlt] at hn
      simpa using hn
    have h4 : (lens L).sum = 58 + k + v := by rw [hL, ns_sum]
    rw [h2, h3] at h4
    simp at h4
    omega
  refine ⟨?_, hsum⟩
  have e2 := hx.out
  rw [← hL] at e2
  rw [e2] at h1
  rw [lay_part _ _ _ (by omega) _ _ (by omega), h1]

section
variable {w : World} {ab ag ps m : Nat} {zs : List Int}

theorem write_98 (h : IsA w ab ag ps m zs) (pl c s at_ : Nat) (hb : pl ≤ 1073741824 ∧ at_ ≤ 1073741824) (a : Option Addr) (n cp : Nat) (ys : List Int) (hy : Has w a n ys) (hbs : isBytes ys) (hn : n ≤ 1073741824) (ht : There ps zs.length ((pl + at_ : Nat) : Int) n) :
    Calls Try.prog 98 #[chV ab pl c s, .int .i64 at_, .slice a n cp] w fun y w' => y = .returned (.tuple #[]) ∧ w.grownBy w' (some ag) ∧ IsA w' ab ag ps m (lay zs (pl + at_) ys) := by
  have hal := World.grownBy_alloc w (.cells #[.pointer (some ⟨ab, 0, none⟩), .int .i64 pl, .int .i64 c, .int .i64 s] 167) none
  have h0 := h.kept0 hal
  have hg := (write_yes h0 ((pl + at_ : Nat) : Int) a n cp ys (hy.kept0 hal) hbs (by omega) ht).mono (R' := fun e w' => e = .returned (.int .i64 0) ∧ w.grownBy w' (some ag) ∧ IsA w' ab ag ps m (lay zs (pl + at_) ys)) (by
    rintro y w' ⟨rfl, hf, hc⟩
    rw [Int.toNat_natCast] at hc
    exact ⟨rfl, gb_trans (gb_none (some ag) hal) hf, hc⟩)
  rw [show ((pl + at_ : Nat) : Int) = (pl : Int) + at_ by omega] at hg
  generalize lay zs (pl + at_) ys = us at *
  clear h ht h0
  unfold chV
  go_enter Try.func98, Try.ntmps98
  go_wp2_with (first | (go_at_call 119; go_must (refine hg.mono ?_); rintro y w1 ⟨rfl, hf, hA1⟩) | fail)
  go_end0
  exact ⟨rfl, hf, hA1⟩
theorem read_103 (h : IsA w ab ag ps m zs) (pl c s at_ n : Nat) (hb : pl ≤ 1073741824 ∧ at_ ≤ 1073741824) (hn : n ≤ 1073741824) (ht : There ps zs.length ((pl + at_ : Nat) : Int) n) :
    Calls Try.prog 103 #[chV ab pl c s, .int .i64 at_, .int .i64 n] w fun y w' => ∃ g, y = .returned (.slice (some ⟨g, 0, none⟩) n n) ∧ w.heap.size ≤ g ∧ w.grownBy w' none ∧ w'.heap[g]? = some (.cells (vals (cut zs (pl + at_) n)) 5 (0, 0)) := by
  have hal := World.grownBy_alloc w (.cells #[.pointer (some ⟨ab, 0, none⟩), .int .i64 pl, .int .i64 c, .int .i64 s] 167) none
  have h0 := h.kept0 hal
  have hg := (read_yes h0 ((pl + at_ : Nat) : Int) n ht).mono (R' := fun e w' => ∃ g, e = .returned (.tuple #[.slice (some ⟨g, 0, none⟩) n n, .int .i64 0]) ∧ w.heap.size ≤ g ∧ w.grownBy w' none ∧ w'.heap[g]? = some (.cells (vals (cut zs (pl + at_) n)) 5 (0, 0))) (by
    rintro y w' ⟨rfl, hf, hc⟩
    rw [Int.toNat_natCast, Int.toNat_natCast] at hc
    exact ⟨_, rfl, by simp, gb_trans hal hf, hc⟩)
  rw [show ((pl + at_ : Nat) : Int) = (pl : Int) + at_ by omega] at hg
  generalize cut zs (pl + at_) n = us at *
  clear h ht h0
  unfold chV
  go_enter Try.func103, Try.ntmps103
  go_wp2_with (first | (go_at_call 91; go_must (refine hg.mono ?_); rintro y w1 ⟨g, rfl, hg1, hf, hA1⟩) | fail)
  go_ret
  exact ⟨g, rfl, hg1, hf, hA1⟩

variable {pl k v cap : Nat}
theorem sput_u8 (hP : Pl ps zs.length pl cap) (hcap : 58 + k + v ≤ cap) {L : List (List Int)} (hL : lens L = ns k v) (h : IsA w ab ag ps m (lay zs pl L.flatten)) (c s i x : Nat) (z : Int) (hz : 0 ≤ z ∧ z < 256) (hx : Hid (((ns k v).take i).sum = x)) (hn : (ns k v)[i]? = some 1) :
    Calls Try.prog 97 #[chV ab pl c s, .int .i64 x, .int .u8 z] w fun y w' => y = .returned (.tuple #[]) ∧ w.grownBy w' (some ag) ∧ IsA w' ab ag ps m (lay zs pl (L.set i (be 1 z)).flatten) := by
  have hle := hP.le
  have hfl : L.flatten.length = 58 + k + v := by rw [lens_flat, hL, ns_sum]
  have hll : (lay zs pl L.flatten).length = zs.length := length_lay (by omega)
  obtain ⟨h1, h2⟩ := piece_lay hle hcap hL i (be 1 z) x hx (by rw [be_len]; exact hn)
  rw [be_len] at h2
  have hb := hP.hb
  have := iput_u8 h pl c s x z hz (by omega) (by rw [hll]; exact hP.th x 1 (by omega))
  rw [h1] at this
  exact this
theorem sput_u16 (hP : Pl ps zs.length pl cap) (hcap : 58 + k + v ≤ cap) {L : List (List Int)} (hL : lens L = ns k v) (h : IsA w ab ag ps m (lay zs pl L.flatten)) (c s i x : Nat) (z : Int) (hz : 0 ≤ z ∧ z < 65536) (hx : Hid (((ns k v).take i).sum = x)) (hn : (ns k v)[i]? = some 2) :
    Calls Try.prog 139 #[chV ab pl c s, .int .i64 x, .int .u16 z] w fun y w' => y = .returned (.tuple #[]) ∧ w.grownBy w' (some ag) ∧ IsA w' ab ag ps m (lay zs pl (L.set i (be 2 z)).flatten) := by
  have hle := hP.le
  have hfl : L.flatten.length = 58 + k + v := by rw [lens_flat, hL, ns_sum]
  have hll : (lay zs pl L.flatten).length = zs.length := length_lay (by omega)
  obtain ⟨h1, h2⟩ := piece_lay hle hcap hL i (be 2 z) x hx (by rw [be_len]; exact hn)
  rw [be_len] at h2
  have hb := hP.hb
  have := iput_u16 h pl c s x z hz (by omega) (by rw [hll]; exact hP.th x 2 (by omega))
  rw [h1] at this
  exact this
theorem sput_u32 (hP : Pl ps zs.length pl cap) (hcap : 58 + k + v ≤ cap) {L : List (List Int)} (hL : lens L = ns k v) (h : IsA w ab ag ps m (lay zs pl L.flatten)) (c s i x : Nat) (z : Int) (hz : 0 ≤ z ∧ z < 4294967296) (hx : Hid (((ns k v).take i).sum = x)) (hn : (ns k v)[i]? = some 4) :
    Calls Try.prog 96 #[chV ab pl c s, .int .i64 x, .int .u32 z] w fun y w' => y = .returned (.tuple #[]) ∧ w.grownBy w' (some ag) ∧ IsA w' ab ag ps m (lay zs pl (L.set i (be 4 z)).flatten) := by
  have hle := hP.le
  have hfl : L.flatten.length = 58 + k + v := by rw [lens_flat, hL, ns_sum]
  have hll : (lay zs pl L.flatten).length = zs.length := length_lay (by omega)
  obtain ⟨h1, h2⟩ := piece_lay hle hcap hL i (be 4 z) x hx (by rw [be_len]; exact hn)
  rw [be_len] at h2
  have hb := hP.hb
  have := iput_u32 h pl c s x z hz (by omega) (by rw [hll]; exact hP.th x 4 (by omega))
  rw [h1] at this
  exact this
theorem sput_u64 (hP : Pl ps zs.length pl cap) (hcap : 58 + k + v ≤ cap) {L : List (List Int)} (hL : lens L = ns k v) (h : IsA w ab ag ps m (lay zs pl L.flatten)) (c s i x : Nat) (z : Int) (hz : 0 ≤ z ∧ z < 18446744073709551616) (hx : Hid (((ns k v).take i).sum = x)) (hn : (ns k v)[i]? = some 8) :
    Calls Try.prog 95 #[chV ab pl c s, .int .i64 x, .int .u64 z] w fun y w' => y = .returned (.tuple #[]) ∧ w.grownBy w' (some ag) ∧ IsA w' ab ag ps m (lay zs pl (L.set i (be 8 z)).flatten) := by
  have hle := hP.le
  have hfl : L.flatten.length = 58 + k + v := by rw [lens_flat, hL, ns_sum]
  have hll : (lay zs pl L.flatten).length = zs.length := length_lay (by omega)
  obtain ⟨h1, h2⟩ := piece_lay hle hcap hL i (be 8 z) x hx (by rw [be_len]; exact hn)
  rw [be_len] at h2
  have hb := hP.hb
  have := iput_u64 h pl c s x z hz (by omega) (by rw [hll]; exact hP.th x 8 (by omega))
  rw [h1] at this
  exact this
theorem swrite (hP : Pl ps zs.length pl cap) (hcap : 58 + k + v ≤ cap) {L : List (List Int)} (hL : lens L = ns k v) (h : IsA w ab ag ps m (lay zs pl L.flatten)) (c s i x : Nat) (a : Option Addr) (n cp : Nat) (ys : List Int) (hy : Has w a n ys) (hbs : isBytes ys) (hx : Hid (((ns k v).take i).sum = x)) (hn : (ns k v)[i]? = some n) :
    Calls Try.prog 98 #[chV ab pl c s, .int .i64 x, .slice a n cp] w fun y w' => y = .returned (.tuple #[]) ∧ w.grownBy w' (some ag) ∧ IsA w' ab ag ps m (lay zs pl (L.set i ys).flatten) := by
  have hle := hP.le
  have hfl : L.flatten.length = 58 + k + v := by rw [lens_flat, hL, ns_sum]
  have hll : (lay zs pl L.flatten).length = zs.length := length_lay (by omega)
  obtain ⟨h1, h2⟩ := piece_lay hle hcap hL i ys x hx (by rw [hy.1]; exact hn)
  rw [hy.1] at h2
  have hb := hP.hb
  have := write_98 h pl c s x (by omega) a n cp ys hy hbs (by omega) (by rw [hll]; exact hP.th x n (by omega))
  rw [h1] at this
  exact this

set_option maxRecDepth 100000 in
set_option maxHeartbeats 1000000 in
theorem layValue_99 (hP : Pl ps zs.length pl cap) (hcap : 58 + k + v ≤ cap) {L : List (List Int)} (hL : lens L = ns k v) (h : IsA w ab ag ps m (lay zs pl L.flatten)) (c s : Nat) (a : Option Addr) (cp : Nat) (ys : List Int) (hy : Has w a v ys) (hbs : isBytes ys) (ha : ∀ x, a.map (·.block) = some x → x ≠ ag) :
    Calls Try.prog 99 #[chV ab pl c s, .int .i64 k, .slice a v cp] w fun y w' => y = .returned (.tuple #[]) ∧ w.grownBy w' (some ag) ∧ IsA w' ab ag ps m (lay zs pl (((L.set 12 (be 4 v)).set 15 ys).set 16 (be 2 3338)).flatten) := by
  have hb := hP.hb
  have hal := World.grownBy_alloc w (.cells #[.pointer (some ⟨ab, 0, none⟩), .int .i64 pl, .int .i64 c, .int .i64 s] 167) none
  have hbx := Box.new w 167 #[.pointer (some ⟨ab, 0, none⟩), .int .i64 pl, .int .i64 c, .int .i64 s]
  have hag : ag < w.heap.size := lt_of_block h.hg
  have hne : some w.heap.size ≠ some ag := by simp; omega
  have h1 := (sput_u32 hP hcap hL (h.kept0 hal) c s 12 48 v (by omega) rfl rfl)
  have hL1 : lens (L.set 12 (be 4 v)) = ns k v := by rw [lens_set _ _ _ (by rw [hL, be_len]; simp [ns])]; exact hL
  have hL2 : lens ((L.set 12 (be 4 v)).set 15 ys) = ns k v := by rw [lens_set _ _ _ (by rw [hL1, hy.1]; simp [ns])]; exact hL1
  have h2 := fun w1 (hw : IsA w1 ab ag ps m (lay zs pl (L.set 12 (be 4 v)).flatten)) (hh : Has w1 a v ys) => swrite hP hcap hL1 hw c s 15 (56 + k) a v cp ys hh hbs (by show _ = _; simp [ns]; omega) rfl
  have h3 := fun w1 (hw : IsA w1 ab ag ps m (lay zs pl ((L.set 12 (be 4 v)).set 15 ys).flatten)) => sput_u16 hP hcap hL2 hw c s 16 (56 + k + v) 3338 (by omega) (by show _ = _; simp [ns]; omega) rfl
  rw [show ((56 + k : Nat) : Int) = 56 + (k : Int) by omega] at h2
  rw [show ((56 + k + v : Nat) : Int) = 56 + (k : Int) + v by omega] at h3
  have hyk := fun w1 (hf : w.grownBy w1 (some ag)) => hy.kept hf (fun x hx => by have := ha x hx; simpa using this)
  generalize lay zs pl (L.set 12 (be 4 v)).flatten = z1 at *
  generalize lay zs pl ((L.set 12 (be 4 v)).set 15 ys).flatten = z2 at *
  generalize lay zs pl (((L.set 12 (be 4 v)).set 15 ys).set 16 (be 2 3338)).flatten = z3 at *
  clear hL hL1 hL2 h hP
  unfold chV at *
  go_enter Try.func99, Try.ntmps99
  go_wp2_with (first | (go_at_call 96; go_must (refine h1.mono ?_); rintro y w1 ⟨rfl, hf1, hA1⟩; (have hb1 := hbx.kept hf1 hne); (have z0 := hb1.cell 0); (have z1' := hb1.cell 1); (have z2' := hb1.cell 2); (have z3' := hb1.cell 3); simp at z0 z1' z2' z3'; (have hF1 := gb_trans (gb_none (some ag) hal) hf1)) | (go_at_call 98; go_must (refine (h2 _ hA1 (hyk _ hF1)).mono ?_); rintro y w2 ⟨rfl, hf2, hA2⟩; (have hb2 := hb1.kept hf2 hne); (have q0 := hb2.cell 0); (have q1 := hb2.cell 1); (have q2 := hb2.cell 2); (have q3 := hb2.cell 3); simp at q0 q1 q2 q3) | (go_at_call 139; go_must (refine (h3 _ hA2).mono ?_); rintro y w3 ⟨rfl, hf3, hA3⟩) | fail)
  go_end0
  exact ⟨rfl, gb_trans (gb_trans hF1 hf2) hf3, hA3⟩
end

end Go.Proofs.Ytgldbdfadjmfeaa
