import Derived.Test.YtbbocbdoiealoaaGreatDoorRPap
import Derived.Test.YtbbocbdoiealoaaGreatDoorRPai
set_option linter.unusedVariables false
set_option linter.unusedSimpArgs false
namespace Go.Proofs.YtbbocbdoiealoaaGreatDoor
open Go.RowKit Go.Maps
def By (w : World) (v : Value) (l : Bs) : Prop := (l = [] ∧ ∃ a c, v = .slice a 0 c) ∨ ∃ g o c, v = .slice (some ⟨g, o, none⟩) l.length c ∧ l.length ≤ 1099511627776 ∧ g < w.heap.size ∧ ∀ i x, l[i]? = some x → w.cell? ⟨g, o + i, none⟩ = some (.int .u8 x.toNat)
theorem By.kept {w w' : World} {v : Value} {l : Bs} (h : By w v l) (hg : w.grownBy w' none) : By w' v l := by
  rcases h with h | ⟨g, o, c, h1, h2, h3, h4⟩
  · exact .inl h
  · exact .inr ⟨g, o, c, h1, h2, Nat.lt_of_lt_of_le h3 hg.size, fun i x hx => gb_cellN hg (h4 i x hx)⟩
theorem By.shape {w : World} {v : Value} {l : Bs} (h : By w v l) : ∃ a c, v = .slice a l.length c := by
  rcases h with ⟨rfl, a, c, rfl⟩ | ⟨g, o, c, rfl, _⟩
  · exact ⟨a, c, rfl⟩
  · exact ⟨_, c, rfl⟩
theorem By.conv {w : World} {v : Value} {l : Bs} (h : By w v l) : (convert 38 9 v).run Tryz.prog w = .ok (sv l) w := by
  rcases h with ⟨rfl, a, c, rfl⟩ | ⟨g, o, c, rfl, _, _, h4⟩
  · cases a with
    | none => exact run_convert_bytes_nil w 38 5 Tryz.underlying38 Tryz.underlying5 0 c 9 Tryz.underlying9
    | some a =>
      rw [run_convert_bytes_string w 38 9 5 _ 0 c Tryz.underlying38 Tryz.underlying5 Tryz.underlying9]
      simp [Conv.bytesToString, loadCells, loadCellsFrom]
      rfl
  · refine run_convert_bytes_back w 38 9 5 ⟨g, o, none⟩ c l Tryz.underlying38 Tryz.underlying5 Tryz.underlying9 ?_
    intro j hj
    rw [Addr.add_mid]
    exact h4 j l[j] (List.getElem?_eq_getElem hj)
theorem rowL_nodup : (rowL.map Prod.fst).Nodup := by decide
theorem rowL_len : ∀ p ∈ rowL, p.1.length ≤ 1099511627776 := by decide
theorem spl_len : ∀ (l cur x : Bs), x ∈ spl cur l → x.length ≤ cur.length + l.length
  | [], cur, x, h => by
    simp only [spl] at h
    split at h
    · cases h
    · simp at h; subst h; simp
  | b :: t, cur, x, h => by
    simp only [spl] at h
    split at h
    · split at h
      · have := spl_len t [] x h; simp at this ⊢; omega
      · rcases List.mem_cons.1 h with rfl | h
        · simp
        · have := spl_len t [] x h; simp at this ⊢; omega
    · have := spl_len t _ x h; simp at this ⊢; omega
theorem spl_ne : ∀ (l cur x : Bs), x ∈ spl cur l → x ≠ []
  | [], cur, x, h => by
    simp only [spl] at h
    split at h
    · cases h
    · rename_i h1; simp at h; subst h; exact h1
  | b :: t, cur, x, h => by
    simp only [spl] at h
    split at h
    · split at h
      · exact spl_ne t [] x h
      · rename_i h1
        rcases List.mem_cons.1 h with rfl | h
        · exact h1
        · exact spl_ne t [] x h
    · exact spl_ne t _ x h
set_option maxRecDepth 100000 in
set_option maxHeartbeats 4000000 in
theorem begin_16 {w : World} {gb : Nat} (hG : GM w gb rowL) (hE : Er w) (v : Value) (l : Bs) (hB : By w v l) (hl : l.length ≤ 2048) (x : Bs) (ws : List Bs) (hs : spl [] l = x :: ws) (r : Rw) (hr : rowS x = some r) :
    Calls Tryz.prog 106 #[.map (some gb), v] w fun e w' => ∃ v', e = .returned (.tuple #[rv r, v']) ∧ Ws w' v' ws ∧ (∀ g o n c, v' = .slice (some ⟨g, o, none⟩) n c → w.heap.size ≤ g) ∧ w.grownBy w' none := by
  obtain ⟨a, c, rfl⟩ := hB.shape
  have hgA := gb_alloc (gb_refl w none) (.cells #[.int .i64 0, .string ⟨#[]⟩, .string ⟨#[]⟩, .bool false, .bool false] 151)
  have hbA := Box.new w 151 #[.int .i64 0, .string ⟨#[]⟩, .string ⟨#[]⟩, .bool false, .bool false]
  have hcv := (hB.kept hgA).conv
  have h28 := fun W => cut_28 l (by omega) W
  rw [hs] at h28
  have hll : decide (2048 < (l.length : Int)) = false := decide_eq_false (by omega)
  have hxl : x.length ≤ 1099511627776 := Nat.le_trans (spl_len l [] x (by rw [hs]; simp)) (by simp; omega)
  obtain ⟨n, hn⟩ : ∃ n, (x :: ws).length = n := ⟨_, rfl⟩
  have hn1 : 0 < n := by rw [← hn]; simp
  have hn2 : ((1 : Int) ≤ (n : Int)) := by omega
  have hn3 : ((n : Int) == 0) = false := by simp; omega
  rw [hn] at h28
  clear hB
  go_enter Tryz.func106, Tryz.ntmps106
  go_wp2_with (go_at_call 147; go_must ((with_reducible refine (h28 _).mono ?_); rintro e w2 ⟨v2, rfl, hrow, hg2⟩; obtain ⟨ao, cp, rfl, -, hcp, -, hao⟩ := row_shape hrow; obtain ⟨g, rfl⟩ := hao hn1; (have hlk := (hG.kept (gb_trans hgA hg2) (by simp)).look rowL_nodup x rowL_len hxl); (have hc0 : w2.cell? ⟨g, 0, none⟩ = some (sv x) := row_cell hrow 0 _ rfl); (have hlr : rowL.lookup x = some r := hr); (rw [hlr] at hlk); (have hb2 := hbA.kept hg2 (by simp)); (have hcn : ((n : Int) ≤ (cp : Int)) := by omega)))
  have b3 := Box.new w2 151 #[.int .i64 r.verb, .string ⟨r.wants.toArray⟩, .string ⟨r.may.toArray⟩, .bool r.endless, .bool r.quiet]
  have hgB := gb_alloc (gb_refl w2 none) (.cells #[.int .i64 r.verb, .string ⟨r.wants.toArray⟩, .string ⟨r.may.toArray⟩, .bool r.endless, .bool r.quiet] 151)
  have hb3 := hb2.kept hgB (by simp)
  have hrow3 := row_kept hrow hgB (by simp)
  have hlt := hb2.lt
  generalize w2.alloc (.cells #[.int .i64 r.verb, .string ⟨r.wants.toArray⟩, .string ⟨r.may.toArray⟩, .bool r.endless, .bool r.quiet] 151) = W3 at b3 hgB hb3 hrow3 ⊢
  have y0 : W3.cell? ⟨w2.heap.size, 0, none⟩ = some (.int .i64 r.verb) := b3.cell 0
  have y1 : W3.cell? ⟨w2.heap.size, 1, none⟩ = some (sv r.wants) := b3.cell 1
  have y2 : W3.cell? ⟨w2.heap.size, 2, none⟩ = some (sv r.may) := b3.cell 2
  have y3 : W3.cell? ⟨w2.heap.size, 3, none⟩ = some (.bool r.endless) := b3.cell 3
  have y4 : W3.cell? ⟨w2.heap.size, 4, none⟩ = some (.bool r.quiet) := b3.cell 4
  have r0 : W3.cell? ⟨w.heap.size, 0, none⟩ = some (.int .i64 0) := hb3.cell 0
  have r1 : W3.cell? ⟨w.heap.size, 1, none⟩ = some (.string ⟨#[]⟩) := hb3.cell 1
  have r2 : W3.cell? ⟨w.heap.size, 2, none⟩ = some (.string ⟨#[]⟩) := hb3.cell 2
  have r3 : W3.cell? ⟨w.heap.size, 3, none⟩ = some (.bool false) := hb3.cell 3
  have r4 : W3.cell? ⟨w.heap.size, 4, none⟩ = some (.bool false) := hb3.cell 4
  have z0 := hb3.fz 0
  have z1 := hb3.fz 1
  have z2 := hb3.fz 2
  have z3 := hb3.fz 3
  have z4 := hb3.fz 4
  have hne1 : ¬ w2.heap.size = w.heap.size := by omega
  have hne2 : ¬ w.heap.size = w2.heap.size := by omega
  clear hlk hcv h28 hc0 hb2 hbA
  go_region_held3 (fun W : World => W.cell? ⟨w2.heap.size, 0, none⟩ = some (.int .i64 r.verb) ∧ W.cell? ⟨w2.heap.size, 1, none⟩ = some (sv r.wants) ∧ W.cell? ⟨w2.heap.size, 2, none⟩ = some (sv r.may) ∧ W.cell? ⟨w2.heap.size, 3, none⟩ = some (.bool r.endless) ∧ W.cell? ⟨w2.heap.size, 4, none⟩ = some (.bool r.quiet)) (go_keep) ((fail))
  obtain ⟨hbx, hgx⟩ := box5 (v0 := .int .i64 r.verb) (v1 := .string ⟨r.wants.toArray⟩) (v2 := .string ⟨r.may.toArray⟩) (v3 := .bool r.endless) (v4 := .bool r.quiet) hb3
  generalize ((((W3.setCell ⟨w.heap.size, 0, none⟩ (.int .i64 r.verb)).setCell ⟨w.heap.size, 1, none⟩ (.string ⟨r.wants.toArray⟩)).setCell ⟨w.heap.size, 2, none⟩ (.string ⟨r.may.toArray⟩)).setCell ⟨w.heap.size, 3, none⟩ (.bool r.endless)).setCell ⟨w.heap.size, 4, none⟩ (.bool r.quiet) = WE at hbx hgx ⊢
  clear y0 y1 y2 y3 y4 r0 r1 r2 r3 r4 z0 z1 z2 z3 z4
  generalize hav : (if cp = 1 then (some ⟨g, 0, none⟩ : Option Addr) else some ⟨g, 1, none⟩) = av
  have HAV := Lib.hid hav
  clear hav
  go_wp2
  have hbD : Box WE.drew 151 w.heap.size #[.int .i64 r.verb, .string ⟨r.wants.toArray⟩, .string ⟨r.may.toArray⟩, .bool r.endless, .bool r.quiet] := hbx.kept (gb_drew (gb_refl _ none)) (by simp)
  refine ⟨rfl, _, res16 hbD _ rfl rfl, _, rfl, ?_, ?_, ?_⟩
  · have hrE := row_kept (row_kept hrow3 hgx (row_box hrow3 hb3 (by omega))) (gb_drew (gb_refl WE none)) (by simp)
    cases ws with
    | nil =>
      have : n = 1 := by rw [← hn]; rfl
      subst this
      exact .inl ⟨rfl, _, _, rfl⟩
    | cons y t =>
      have hn4 : n = t.length + 2 := by rw [← hn]; simp
      have hcp1 : ¬ cp = 1 := by omega
      refine .inr ⟨g, 1, cp - 1, ?_, ?_, ?_, ?_⟩
      · have hav := HAV.out
        rw [if_neg hcp1] at hav
        rw [← hav, hn4]; rfl
      · rw [List.length_cons]; omega
      · obtain ⟨cur, hcur⟩ := row_block hrE g rfl
        exact lt_of_block hcur
      · intro i z hz
        rw [Nat.add_comm 1 i]
        exact row_cell hrE (i + 1) _ (by rw [List.getElem?_map, List.getElem?_cons_succ, hz]; rfl)
  · intro g' o' n' c' hv'
    injection hv' with hv' _ _
    have hav := HAV.out
    rw [hv'] at hav
    have hg3 : g = g' := by
      split at hav
      · injection hav with hav; injection hav
      · injection hav with hav; injection hav
    have := (World.ownsRow.lt hrow g rfl).1
    simp at this
    omega
  · exact gb_drew (gb_mine (gb_trans (gb_trans hgA hg2) hgB) hgx (Nat.le_refl _))
set_option maxRecDepth 100000 in
set_option maxHeartbeats 4000000 in
theorem begin_long {w : World} (gb : Nat) (v : Value) (l : Bs) (hB : By w v l) (hl : 2048 < l.length) :
    Calls Tryz.prog 106 #[.map (some gb), v] w fun e w' => e = up ⟨tooLong.toArray⟩ ∧ w.grownBy w' none := by
  obtain ⟨a, c, rfl⟩ := hB.shape
  have hgA := gb_alloc (gb_refl w none) (.cells #[.int .i64 0, .string ⟨#[]⟩, .string ⟨#[]⟩, .bool false, .bool false] 151)
  have hll : decide (2048 < (l.length : Int)) = true := decide_eq_true (by omega)
  go_enter Tryz.func106, Tryz.ntmps106
  go_wp2_with (go_at_call 146; (with_reducible refine (giveUp_27 _ _).mono ?_); rintro e w2 ⟨rfl, rfl⟩)
  exact ⟨rfl, rfl, hgA⟩
set_option maxRecDepth 100000 in
set_option maxHeartbeats 4000000 in
theorem begin_none {w : World} (gb : Nat) (v : Value) (l : Bs) (hB : By w v l) (hl : l.length ≤ 2048) (hs : spl [] l = []) :
    Calls Tryz.prog 106 #[.map (some gb), v] w fun e w' => e = up ⟨#[]⟩ ∧ w.grownBy w' none := by
  obtain ⟨a, c, rfl⟩ := hB.shape
  have hgA := gb_alloc (gb_refl w none) (.cells #[.int .i64 0, .string ⟨#[]⟩, .string ⟨#[]⟩, .bool false, .bool false] 151)
  have hcv := (hB.kept hgA).conv
  have h28 := fun W => cut_28 l (by omega) W
  rw [hs] at h28
  have hll : decide (2048 < (l.length : Int)) = false := decide_eq_false (by omega)
  clear hB
  go_enter Tryz.func106, Tryz.ntmps106
  go_wp2_with (first | (go_at_call 147; go_must ((with_reducible refine (h28 _).mono ?_); rintro e w2 ⟨v2, rfl, hrow, hg2⟩; obtain ⟨ao, cp, rfl, -, hcp, -, hao⟩ := row_shape hrow)) | (go_at_call 146; (with_reducible refine (giveUp_27 _ _).mono ?_); rintro e w3 ⟨rfl, rfl⟩))
  exact ⟨rfl, rfl, gb_trans hgA hg2⟩
set_option maxRecDepth 100000 in
set_option maxHeartbeats 4000000 in
theorem begin_no {w : World} {gb : Nat} (hG : GM w gb rowL) (v : Value) (l : Bs) (hB : By w v l) (hl : l.length ≤ 2048) (x : Bs) (ws : List Bs) (hs : spl [] l = x :: ws) (hr : rowS x = none) :
    Calls Tryz.prog 106 #[.map (some gb), v] w fun e w' => e = up ⟨#[]⟩ ∧ w.grownBy w' none := by
  obtain ⟨a, c, rfl⟩ := hB.shape
  have hgA := gb_alloc (gb_refl w none) (.cells #[.int .i64 0, .string ⟨#[]⟩, .string ⟨#[]⟩, .bool false, .bool false] 151)
  have hcv := (hB.kept hgA).conv
  have h28 := fun W => cut_28 l (by omega) W
  rw [hs] at h28
  have hll : decide (2048 < (l.length : Int)) = false := decide_eq_false (by omega)
  have hxl : x.length ≤ 1099511627776 := Nat.le_trans (spl_len l [] x (by rw [hs]; simp)) (by simp; omega)
  obtain ⟨n, hn⟩ : ∃ n, (x :: ws).length = n := ⟨_, rfl⟩
  have hn1 : 0 < n := by rw [← hn]; simp
  have hn2 : ((1 : Int) ≤ (n : Int)) := by omega
  have hn3 : ((n : Int) == 0) = false := by simp; omega
  rw [hn] at h28
  clear hB
  go_enter Tryz.func106, Tryz.ntmps106
  go_wp2_with (first | (go_at_call 147; go_must ((with_reducible refine (h28 _).mono ?_); rintro e w2 ⟨v2, rfl, hrow, hg2⟩; obtain ⟨ao, cp, rfl, -, hcp, -, hao⟩ := row_shape hrow; obtain ⟨g, rfl⟩ := hao hn1; (have hlk := (hG.kept (gb_trans hgA hg2) (by simp)).look rowL_nodup x rowL_len hxl); (have hc0 : w2.cell? ⟨g, 0, none⟩ = some (sv x) := row_cell hrow 0 _ rfl); (have hlr : rowL.lookup x = none := hr); (rw [hlr] at hlk))) | (go_at_call 146; (with_reducible refine (giveUp_27 _ _).mono ?_); rintro e w3 ⟨rfl, rfl⟩))
  exact ⟨rfl, rfl, gb_alloc (gb_trans hgA hg2) _⟩
end Go.Proofs.YtbbocbdoiealoaaGreatDoor
namespace Go.Proofs.YtbbocbdoiealoaaGreatDoor
open Go.RowKit Go.Maps
theorem indexByte_spec (c : UInt8) : ∀ (l : Bs), (Lib.indexByte l c = -1 ∧ c ∉ l) ∨ ∃ p t, l = p ++ c :: t ∧ c ∉ p ∧ Lib.indexByte l c = (p.length : Int)
  | [] => .inl ⟨rfl, by simp⟩
  | b :: l => by
    unfold Lib.indexByte
    by_cases hb : b = c
    · subst hb
      exact .inr ⟨[], l, rfl, by simp, by simp⟩
    · have hb' : (b == c) = false := by simpa using hb
      rcases indexByte_spec c l with ⟨h1, h2⟩ | ⟨p, t, h1, h2, h3⟩
      · exact .inl ⟨by simp [hb', h1], by simp [h2, Ne.symm hb]⟩
      · refine .inr ⟨b :: p, t, by simp [h1], by simp [h2, Ne.symm hb], ?_⟩
        have : ((p.length : Int) == -1) = false := by simp
        simp [hb', h3, this]
theorem bytesOf_b8 (l : Bs) : Lib.bytesOf (l.map fun b => (b.toNat : Int)) = l := by
  induction l with
  | nil => rfl
  | cons b t ih => simp [Lib.bytesOf] at ih ⊢; exact ih
set_option maxRecDepth 100000 in
set_option maxHeartbeats 4000000 in
theorem ix_118 (w : World) (g o c : Nat) (l : Bs) (hc : ∀ i x, l[i]? = some x → w.cell? ⟨g, o + i, none⟩ = some (b8 x)) :
    Calls Tryz.prog 123 #[.slice (some ⟨g, o, none⟩) l.length c, .int .u8 10] w fun e w' => e = .returned (.int .i64 (Lib.indexByte l 10)) ∧ w' = w := by
  have h := Lib.run_indexByteSlice (P := Tryz.prog) w g o l.length c (l.map fun b => (b.toNat : Int)) (by simp) (fun i hi => by
    rw [hc i l[i] (List.getElem?_eq_getElem hi), List.getD_eq_getElem?_getD, List.getElem?_map, List.getElem?_eq_getElem hi]; rfl) 10
  rw [bytesOf_b8] at h
  clear hc
  go_enter Tryz.func123, Tryz.ntmps123
  go_wp2
  rw [run_callFunc_extern Tryz.func152 (by kernel_rfl) (by kernel_rfl) (by kernel_rfl) (e := Extern.BytealgIndexByte.indexByte) (by kernel_rfl), h]
  simp only [Result.andThen]
  rw [Oper.upon_value]
  go_wp2
  go_ret
  exact ⟨rfl, rfl⟩
set_option maxRecDepth 100000 in
set_option maxHeartbeats 4000000 in
theorem equal_162 {w : World} {a b : Value} {la lb : Bs} (hA : By w a la) (hB : By w b lb) :
    Calls Tryz.prog 167 #[a, b] w fun e w' => e = .returned (.bool (la == lb)) ∧ w' = w := by
  have h1 := hA.conv
  have h2 := hB.conv
  obtain ⟨a1, c1, rfl⟩ := hA.shape
  obtain ⟨a2, c2, rfl⟩ := hB.shape
  go_enter Tryz.func167, Tryz.ntmps167
  go_wp2
  go_ret
  exact ⟨rfl, rfl⟩
theorem by_end {w : World} {g o : Nat} {l : Bs} (hl : l.length ≤ 1099511627776) (hg : g < w.heap.size) (hc : ∀ i x, l[i]? = some x → w.cell? ⟨g, o + i, none⟩ = some (b8 x)) (k : Nat) (hk : k ≤ l.length) (c' : Nat) : By w (.slice (some ⟨g, o + k, none⟩) (l.length - k) c') (l.drop k) :=
  .inr ⟨g, o + k, c', by rw [List.length_drop], by rw [List.length_drop]; omega, hg, fun i x hx => by rw [List.getElem?_drop] at hx; rw [Nat.add_assoc]; exact hc _ x hx⟩
set_option maxRecDepth 100000 in
set_option maxHeartbeats 4000000 in
theorem suf_148 {w : World} {g o c sg sc : Nat} {l : Bs} (hl : l.length ≤ 1099511627776) (hcp : l.length ≤ c) (hg : g < w.heap.size) (hc : ∀ i x, l[i]? = some x → w.cell? ⟨g, o + i, none⟩ = some (b8 x)) (hs : w.cell? ⟨sg, 0, none⟩ = some (.int .u8 13)) :
    Calls Tryz.prog 153 #[.slice (some ⟨g, o, none⟩) l.length c, .slice (some ⟨sg, 0, none⟩) 1 sc] w fun e w' => e = .returned (.bool (decide (l.getLast? = some 13))) ∧ w' = w := by
  have hsb : By w (.slice (some ⟨sg, 0, none⟩) 1 sc) [13] := .inr ⟨sg, 0, sc, rfl, by simp, lt_of_cell hs, fun i x hx => by
    rcases i with _ | i
    · simp at hx; subst hx; exact hs
    · simp at hx⟩
  rcases Nat.eq_zero_or_pos l.length with h0 | h0
  · have := List.length_eq_zero_iff.1 h0
    subst this
    go_enter Tryz.func153, Tryz.ntmps153
    go_wp2
    go_ret
    exact ⟨rfl, rfl⟩
  · obtain ⟨k, hk⟩ : ∃ k, l.length = k + 1 := ⟨l.length - 1, by omega⟩
    have hE := equal_162 (by_end hl hg hc k (by omega) (c - k)) hsb
    have e1 : l.length - k = 1 := by omega
    have e2 : (l.drop k == [13]) = decide (l.getLast? = some 13) := by
      rw [List.getLast?_eq_getElem?, hk]
      have : l.drop k = [l[k]'(by omega)] := by
        rw [List.drop_eq_getElem_cons (by omega), List.drop_of_length_le (by omega)]
      rw [this, Nat.add_sub_cancel, List.getElem?_eq_getElem (by omega)]
      by_cases e : l[k]'(by omega) = 13
      · simp [e]
      · simp [e]
    rw [e1, e2] at hE
    rw [hk]
    have d1 : wrap64 (((k + 1 : Nat) : Int) - 1) = (k : Int) := by unfold wrap64; omega
    have d2 : ((k : Int) ≤ (c : Int)) := by omega
    have d3 : (((k + 1 : Nat) : Int) ≤ (c : Int)) := by omega
    clear hc e1 e2 hsb hs
    go_enter Tryz.func153, Tryz.ntmps153
    go_wp2_with (go_at_call 167; go_must ((with_reducible refine hE.mono ?_); rintro e w4 ⟨rfl, rfl⟩))
    go_ret
    exact ⟨rfl, rfl⟩
end Go.Proofs.YtbbocbdoiealoaaGreatDoor
