import Derived.Maps.OwnOps
import Derived.Test.YtbbocbdoiealoaaGreatDoorRK
import Derived.Test.YtbbocbdoiealoaaGreatDoorRHa
set_option linter.unusedVariables false
set_option linter.unusedSimpArgs false
namespace Go.Proofs.YtbbocbdoiealoaaGreatDoor
open Go.RowKit Go.Maps
theorem key9 : Keyed Tryz.prog 9 := string_keyed Tryz.underlying9
theorem keyOf9 (l : Bs) (hl : l.length ≤ 1099511627776) : ∃ k, keyOf Tryz.prog 9 (sv l) = some k := by
  simp [keyOf, Tryz.underlying9, mapKey]
  rw [ba_size]; unfold maxLen; omega
theorem sv_inj {a c : Bs} (hac : sv a = sv c) : a = c := by
  injection hac with hac
  have := congrArg (fun b : ByteArray => b.data.toList) hac
  simpa using this
def ents (L : List (Bs × Rw)) : List MapEntry := L.zipIdx.map fun p => ⟨sv p.1.1, rv p.1.2, p.2⟩
theorem ents_app (L : List (Bs × Rw)) (p : Bs × Rw) : ents (L ++ [p]) = ents L ++ [⟨sv p.1, rv p.2, L.length⟩] := by simp [ents, List.zipIdx_append]
theorem ents_get (L : List (Bs × Rw)) (j : Nat) : (ents L)[j]? = L[j]?.map fun p => ⟨sv p.1, rv p.2, j⟩ := by simp [ents, List.getElem?_zipIdx, Option.map_map]; rfl
theorem ents_mem {L : List (Bs × Rw)} {e : MapEntry} (h : e ∈ ents L) : ∃ p ∈ L, e.key = sv p.1 ∧ e.val = rv p.2 := by
  obtain ⟨j, hj⟩ := List.mem_iff_getElem?.1 h
  rw [ents_get] at hj
  cases hp : L[j]? with
  | none => simp [hp] at hj
  | some p =>
    simp [hp] at hj
    subst hj
    exact ⟨p, List.mem_of_getElem? hp, rfl, rfl⟩
def GM (w : World) (b : Nat) (L : List (Bs × Rw)) : Prop := w.heap[b]? = some (.map (ents L).toArray L.length)
theorem GM.kept {w w' : World} {b : Nat} {L : List (Bs × Rw)} {row : Option Nat} (h : GM w b L) (hg : w.grownBy w' row) (hn : some b ≠ row) : GM w' b L := (hg.block b (lt_of_block h) hn).trans h
theorem GM.push {w : World} {b : Nat} {L : List (Bs × Rw)} (h : GM w b L) (x : Bs) (r : Rw) (hx : ∀ p ∈ L, p.1 ≠ x) (hL : ∀ p ∈ L, p.1.length ≤ 1099511627776) (hxl : x.length ≤ 1099511627776) :
    ∃ W, (Instr.mapUpdate 122 (.map (some b)) (sv x) (rv r)).run Tryz.prog w = .ok () W ∧ GM W b (L ++ [(x, r)]) ∧ w.grownBy W (some b) := by
  obtain ⟨k, hk⟩ := keyOf9 x hxl
  have hall : ∀ e ∈ ents L, ∃ l, keyOf Tryz.prog 9 e.key = some l := fun e he => by
    obtain ⟨p, hp, h1, _⟩ := ents_mem he
    rw [h1]; exact keyOf9 p.1 (hL p hp)
  have hc := key9.check w false hk
  rcases key9.find w hk (ents L) hall with ⟨hf, _⟩ | ⟨j, e, hf, he, hek⟩
  · refine ⟨w.putObj b (.map ((ents L).toArray.push ⟨sv x, rv r, L.length⟩) (L.length + 1)), ?_, ?_, grownBy_putObj' _ _ _⟩
    · have h' : w.heap[b]? = some (.map (ents L).toArray L.length) := h
      simp [Instr.mapUpdate, go_sem, getObj, Sem.run, h', hc, hf]
      simp [setObj, Sem.run, World.putObj, h']
    · have := World.putObj_heap_same (w := w) (o := .map ((ents L).toArray.push ⟨sv x, rv r, L.length⟩) (L.length + 1)) (lt_of_block h)
      rw [GM, this, ents_app]; simp
  · obtain ⟨p, hp, h1, _⟩ := ents_mem (List.mem_of_getElem? he)
    rw [h1] at hek
    exact absurd (sv_inj hek) (hx p hp)
theorem lookup_nodup : ∀ {L : List (Bs × Rw)} {p : Bs × Rw}, (L.map Prod.fst).Nodup → p ∈ L → L.lookup p.1 = some p.2
  | [], _, _, h => by cases h
  | q :: t, p, hd, h => by
    simp only [List.map_cons, List.nodup_cons] at hd
    rw [List.lookup_cons]
    rcases List.mem_cons.1 h with rfl | h1
    · simp
    · have hne : ¬ p.1 = q.1 := fun e => hd.1 (e ▸ List.mem_map_of_mem h1)
      rw [show (p.1 == q.1) = false from beq_eq_false_iff_ne.2 hne]
      exact lookup_nodup hd.2 h1
theorem GM.look {w : World} {b : Nat} {L : List (Bs × Rw)} (h : GM w b L) (hd : (L.map Prod.fst).Nodup) (x : Bs) (hL : ∀ p ∈ L, p.1.length ≤ 1099511627776) (hxl : x.length ≤ 1099511627776) :
    (Instr.lookup 122 (.map (some b)) (sv x) true).run Tryz.prog w = .ok (.tuple #[rv ((L.lookup x).getD ⟨0, [], [], false, false⟩), .bool (L.lookup x).isSome]) w := by
  obtain ⟨k, hk⟩ := keyOf9 x hxl
  have hall : ∀ e ∈ ents L, ∃ l, keyOf Tryz.prog 9 e.key = some l := fun e he => by
    obtain ⟨p, hp, h1, _⟩ := ents_mem he
    rw [h1]; exact keyOf9 p.1 (hL p hp)
  have hc := key9.check w (ents L).toArray.isEmpty hk
  have h' : w.heap[b]? = some (.map (ents L).toArray L.length) := h
  have hz : (zeroValue 151).run Tryz.prog w = .ok (rv ⟨0, [], [], false, false⟩) w := Tryz.zeroValue151 w
  rcases key9.find w hk (ents L) hall with ⟨hf, hno⟩ | ⟨j, e, hf, he, hek⟩
  · have hl : L.lookup x = none := by
      rw [List.lookup_eq_none_iff]
      intro p hp
      obtain ⟨j, hj⟩ := List.mem_iff_getElem?.1 hp
      have h1 : (ents L)[j]? = some ⟨sv p.1, rv p.2, j⟩ := by rw [ents_get, hj]; rfl
      have h2 := hno _ (List.mem_of_getElem? h1)
      rw [bne_iff_ne]
      rintro rfl
      exact h2 rfl
    rw [hl]
    simp [Instr.lookup, go_sem, getObj, Sem.run, h', hc, hf, hz] at hc ⊢
    simp [Instr.lookup, go_sem, getObj, Sem.run, h', hc, hf, hz]
  · rw [ents_get] at he
    cases hj : L[j]? with
    | none => simp [hj] at he
    | some p =>
      simp [hj] at he
      subst he
      have hx : p.1 = x := sv_inj hek
      have hl : L.lookup x = some p.2 := by
        rw [← hx]
        exact lookup_nodup hd (List.mem_of_getElem? hj)
      rw [hl]
      simp [Instr.lookup, go_sem, getObj, Sem.run, h', hc, hf] at hc ⊢
      simp [Instr.lookup, go_sem, getObj, Sem.run, h', hc, hf]
theorem rowS_ok {x : Bs} {r : Rw} (h : rowS x = some r) : Rok r := by
  have hall : ∀ p ∈ rowL, (p.2.wants.length ≤ 100 ∧ p.2.may.length ≤ 100) ∧ (∀ a ∈ p.2.wants ++ p.2.may, a ∈ Lts) ∧ (p.2.wants ++ p.2.may = [] → p.2.endless = false) := by decide
  have hm : ∃ p ∈ rowL, p.2 = r := by
    rw [rowS, List.lookup_eq_some_iff] at h
    obtain ⟨l1, l2, h1, _⟩ := h
    exact ⟨(x, r), by rw [h1]; simp, rfl⟩
  obtain ⟨p, hp, rfl⟩ := hm
  obtain ⟨h1, h2, h3⟩ := hall p hp
  exact ⟨h1, h2, h3⟩
set_option maxRecDepth 100000 in
set_option maxHeartbeats 4000000 in
theorem rows_9 (w : World) : Calls Tryz.prog 67 #[] w fun e w' => e = .returned (.map (some w.heap.size)) ∧ GM w' w.heap.size rowL ∧ w.grownBy w' none := by
  obtain ⟨W0, hW0⟩ : ∃ W0, w.alloc (.map #[] 0) = W0 := ⟨_, rfl⟩
  have hmm : (Instr.makeMap 122 none).run Tryz.prog w = .ok (.map (some w.heap.size)) W0 := by rw [← hW0]; exact run_makeMap _ _
  have g0 : GM W0 w.heap.size [] := by rw [← hW0]; exact heap_alloc_new w _
  have k0 : w.grownBy W0 none := by rw [← hW0]; exact gb_alloc (gb_refl _ _) _
  obtain ⟨W1, h1, g1, k1⟩ := g0.push [103, 101, 116] ⟨1, [75], [75], true, false⟩ (by decide) (by decide) (by decide)
  obtain ⟨W2, h2, g2, k2⟩ := g1.push [103, 101, 116, 115] ⟨2, [75], [75], true, false⟩ (by decide) (by decide) (by decide)
  obtain ⟨W3, h3, g3, k3⟩ := g2.push [103, 97, 116] ⟨3, [84, 75], [75], true, false⟩ (by decide) (by decide) (by decide)
  obtain ⟨W4, h4, g4, k4⟩ := g3.push [103, 97, 116, 115] ⟨4, [84, 75], [75], true, false⟩ (by decide) (by decide) (by decide)
  obtain ⟨W5, h5, g5, k5⟩ := g4.push [115, 101, 116] ⟨5, [75, 70, 84, 78], [], false, true⟩ (by decide) (by decide) (by decide)
  obtain ⟨W6, h6, g6, k6⟩ := g5.push [97, 100, 100] ⟨6, [75, 70, 84, 78], [], false, true⟩ (by decide) (by decide) (by decide)
  obtain ⟨W7, h7, g7, k7⟩ := g6.push [114, 101, 112, 108, 97, 99, 101] ⟨7, [75, 70, 84, 78], [], false, true⟩ (by decide) (by decide) (by decide)
  obtain ⟨W8, h8, g8, k8⟩ := g7.push [97, 112, 112, 101, 110, 100] ⟨8, [75, 70, 84, 78], [], false, true⟩ (by decide) (by decide) (by decide)
  obtain ⟨W9, h9, g9, k9⟩ := g8.push [112, 114, 101, 112, 101, 110, 100] ⟨9, [75, 70, 84, 78], [], false, true⟩ (by decide) (by decide) (by decide)
  obtain ⟨W10, h10, g10, k10⟩ := g9.push [99, 97, 115] ⟨10, [75, 70, 84, 78, 67], [], false, true⟩ (by decide) (by decide) (by decide)
  obtain ⟨W11, h11, g11, k11⟩ := g10.push [100, 101, 108, 101, 116, 101] ⟨11, [75], [48], false, true⟩ (by decide) (by decide) (by decide)
  obtain ⟨W12, h12, g12, k12⟩ := g11.push [105, 110, 99, 114] ⟨12, [75, 68], [], false, true⟩ (by decide) (by decide) (by decide)
  obtain ⟨W13, h13, g13, k13⟩ := g12.push [100, 101, 99, 114] ⟨13, [75, 68], [], false, true⟩ (by decide) (by decide) (by decide)
  obtain ⟨W14, h14, g14, k14⟩ := g13.push [116, 111, 117, 99, 104] ⟨14, [75, 84], [], false, true⟩ (by decide) (by decide) (by decide)
  obtain ⟨W15, h15, g15, k15⟩ := g14.push [102, 108, 117, 115, 104, 95, 97, 108, 108] ⟨15, [], [76], false, true⟩ (by decide) (by decide) (by decide)
  obtain ⟨W16, h16, g16, k16⟩ := g15.push [118, 101, 114, 115, 105, 111, 110] ⟨16, [], [], false, false⟩ (by decide) (by decide) (by decide)
  obtain ⟨W17, h17, g17, k17⟩ := g16.push [118, 101, 114, 98, 111, 115, 105, 116, 121] ⟨17, [86], [], false, true⟩ (by decide) (by decide) (by decide)
  obtain ⟨W18, h18, g18, k18⟩ := g17.push [113, 117, 105, 116] ⟨18, [], [], false, false⟩ (by decide) (by decide) (by decide)
  obtain ⟨W19, h19, g19, k19⟩ := g18.push [115, 116, 97, 116, 115] ⟨19, [], [87], false, false⟩ (by decide) (by decide) (by decide)
  obtain ⟨W20, h20, g20, k20⟩ := g19.push [109, 103] ⟨20, [75], [77], true, false⟩ (by decide) (by decide) (by decide)
  obtain ⟨W21, h21, g21, k21⟩ := g20.push [109, 115] ⟨21, [75, 78], [77], true, false⟩ (by decide) (by decide) (by decide)
  obtain ⟨W22, h22, g22, k22⟩ := g21.push [109, 100] ⟨22, [75], [77], true, false⟩ (by decide) (by decide) (by decide)
  obtain ⟨W23, h23, g23, k23⟩ := g22.push [109, 97] ⟨23, [75], [77], true, false⟩ (by decide) (by decide) (by decide)
  obtain ⟨W24, h24, g24, k24⟩ := g23.push [109, 110] ⟨24, [], [], false, false⟩ (by decide) (by decide) (by decide)
  have kk := (gb_trans (gb_trans (gb_trans (gb_trans (gb_trans (gb_trans (gb_trans (gb_trans (gb_trans (gb_trans (gb_trans (gb_trans (gb_trans (gb_trans (gb_trans (gb_trans (gb_trans (gb_trans (gb_trans (gb_trans (gb_trans (gb_trans (gb_trans k1 k2) k3) k4) k5) k6) k7) k8) k9) k10) k11) k12) k13) k14) k15) k16) k17) k18) k19) k20) k21) k22) k23) k24)
  have GF : Hid (GM W24 w.heap.size rowL ∧ w.grownBy W24 none) := ⟨g24, gb_mine k0 kk (Nat.le_refl _)⟩
  clear kk g0 k0 hW0 g1 k1 g2 k2 g3 k3 g4 k4 g5 k5 g6 k6 g7 k7 g8 k8 g9 k9 g10 k10 g11 k11 g12 k12 g13 k13 g14 k14 g15 k15 g16 k16 g17 k17 g18 k18 g19 k19 g20 k20 g21 k21 g22 k22 g23 k23 g24 k24
  go_enter Tryz.func67, Tryz.ntmps67
  go_wp2
  go_ret
  exact ⟨rfl, GF.out⟩
end Go.Proofs.YtbbocbdoiealoaaGreatDoor
namespace Go.Proofs.YtbbocbdoiealoaaGreatDoor
open Go.RowKit
theorem box3 {w : World} {b t : Nat} {u0 u1 u2 v0 v1 v2 : Value} (h : Box w t b #[u0, u1, u2]) : Box (((w.setCell ⟨b, 0, none⟩ v0).setCell ⟨b, 1, none⟩ v1).setCell ⟨b, 2, none⟩ v2) t b #[v0, v1, v2] ∧ w.grownBy (((w.setCell ⟨b, 0, none⟩ v0).setCell ⟨b, 1, none⟩ v1).setCell ⟨b, 2, none⟩ v2) (some b) := by
  have h0 := h.set 0 v0
  simp only [List.setIfInBounds_toArray, List.set_cons_zero, List.set_cons_succ] at h0
  have h1 := h0.set 1 v1
  simp only [List.setIfInBounds_toArray, List.set_cons_zero, List.set_cons_succ] at h1
  have h2 := h1.set 2 v2
  simp only [List.setIfInBounds_toArray, List.set_cons_zero, List.set_cons_succ] at h2
  exact ⟨h2, (gb_setCell (gb_setCell (gb_setCell (gb_refl w (some b)) v0) v1) v2)⟩
theorem box5 {w : World} {b t : Nat} {u0 u1 u2 u3 u4 v0 v1 v2 v3 v4 : Value} (h : Box w t b #[u0, u1, u2, u3, u4]) : Box (((((w.setCell ⟨b, 0, none⟩ v0).setCell ⟨b, 1, none⟩ v1).setCell ⟨b, 2, none⟩ v2).setCell ⟨b, 3, none⟩ v3).setCell ⟨b, 4, none⟩ v4) t b #[v0, v1, v2, v3, v4] ∧ w.grownBy (((((w.setCell ⟨b, 0, none⟩ v0).setCell ⟨b, 1, none⟩ v1).setCell ⟨b, 2, none⟩ v2).setCell ⟨b, 3, none⟩ v3).setCell ⟨b, 4, none⟩ v4) (some b) := by
  have h0 := h.set 0 v0
  simp only [List.setIfInBounds_toArray, List.set_cons_zero, List.set_cons_succ] at h0
  have h1 := h0.set 1 v1
  simp only [List.setIfInBounds_toArray, List.set_cons_zero, List.set_cons_succ] at h1
  have h2 := h1.set 2 v2
  simp only [List.setIfInBounds_toArray, List.set_cons_zero, List.set_cons_succ] at h2
  have h3 := h2.set 3 v3
  simp only [List.setIfInBounds_toArray, List.set_cons_zero, List.set_cons_succ] at h3
  have h4 := h3.set 4 v4
  simp only [List.setIfInBounds_toArray, List.set_cons_zero, List.set_cons_succ] at h4
  exact ⟨h4, (gb_setCell (gb_setCell (gb_setCell (gb_setCell (gb_setCell (gb_refl w (some b)) v0) v1) v2) v3) v4)⟩
theorem res16 {w : World} {b : Nat} {c0 c1 c2 c3 c4 v : Value} (h : Box w 151 b #[c0, c1, c2, c3, c4]) (tmps : Array Value) (ht : tmps[4]?.getD undef = .pointer (some ⟨b, 0, none⟩)) (hv : tmps[5]?.getD undef = v) : (results Tryz.f106 tmps).run Tryz.prog w = .ok (.tuple #[.agg #[c0, c1, c2, c3, c4], v]) w := by
  have hr : Tryz.f106.results = #[.cell 4 151, .tmp 5] := rfl
  have h0 := h.cell 0
  have h1 := h.cell 1
  have h2 := h.cell 2
  have h3 := h.cell 3
  have h4 := h.cell 4
  simp at h0 h1 h2 h3 h4
  unfold results
  simp [hr, ht, hv, go_sem, h0, h1, h2, h3, h4]
theorem res15 {w : World} {b : Nat} {c0 c1 c2 : Value} (h : Box w 43 b #[c0, c1, c2]) (tmps : Array Value) (ht : tmps[4]?.getD undef = .pointer (some ⟨b, 0, none⟩)) : (results Tryz.f105 tmps).run Tryz.prog w = .ok (.agg #[c0, c1, c2]) w := by
  have hr : Tryz.f105.results = #[.cell 4 43] := rfl
  have h0 := h.cell 0
  have h1 := h.cell 1
  have h2 := h.cell 2
  simp at h0 h1 h2
  unfold results
  simp [hr, ht, go_sem, h0, h1, h2]
theorem res10 {w : World} {b1 b2 b3 : Nat} {c0 c1 c2 c3 c4 c5 c6 c7 c8 c9 c10 d e0 e1 e2 : Value} (h : Box w 41 b1 #[c0, c1, c2, c3, c4, c5, c6, c7, c8, c9, c10]) (g : Box w 3 b2 #[d]) (k : Box w 43 b3 #[e0, e1, e2]) (tmps : Array Value) (h4 : tmps[4]?.getD undef = .pointer (some ⟨b1, 0, none⟩)) (h5 : tmps[5]?.getD undef = .pointer (some ⟨b2, 0, none⟩)) (h6 : tmps[6]?.getD undef = .pointer (some ⟨b3, 0, none⟩)) : (results Tryz.f68 tmps).run Tryz.prog w = .ok (.tuple #[.agg #[c0, c1, c2, c3, c4, c5, c6, c7, c8, c9, c10], d, .agg #[e0, e1, e2]]) w := by
  have hr : Tryz.f68.results = #[.cell 4 41, .cell 5 3, .cell 6 43] := rfl
  have p0 := h.cell 0
  have p1 := h.cell 1
  have p2 := h.cell 2
  have p3 := h.cell 3
  have p4 := h.cell 4
  have p5 := h.cell 5
  have p6 := h.cell 6
  have p7 := h.cell 7
  have p8 := h.cell 8
  have p9 := h.cell 9
  have p10 := h.cell 10
  simp at p0 p1 p2 p3 p4 p5 p6 p7 p8 p9 p10
  have q0 := g.cell 0
  simp at q0
  have s0 := k.cell 0
  have s1 := k.cell 1
  have s2 := k.cell 2
  simp at s0 s1 s2
  unfold results
  simp [hr, h4, h5, h6, go_sem, p0, p1, p2, p3, p4, p5, p6, p7, p8, p9, p10, q0, s0, s1, s2]
theorem res6 {w : World} {b1 b3 : Nat} {c0 c1 c2 c3 c4 c5 c6 c7 c8 c9 c10 d e0 e1 e2 : Value} (h : Box w 41 b1 #[c0, c1, c2, c3, c4, c5, c6, c7, c8, c9, c10]) (k : Box w 43 b3 #[e0, e1, e2]) (tmps : Array Value) (h2 : tmps[2]?.getD undef = .pointer (some ⟨b1, 0, none⟩)) (h3 : tmps[3]?.getD undef = d) (h4 : tmps[4]?.getD undef = .pointer (some ⟨b3, 0, none⟩)) : (results Tryz.f17 tmps).run Tryz.prog w = .ok (.tuple #[.agg #[c0, c1, c2, c3, c4, c5, c6, c7, c8, c9, c10], d, .agg #[e0, e1, e2]]) w := by
  have hr : Tryz.f17.results = #[.cell 2 41, .tmp 3, .cell 4 43] := rfl
  have p0 := h.cell 0
  have p1 := h.cell 1
  have p2 := h.cell 2
  have p3 := h.cell 3
  have p4 := h.cell 4
  have p5 := h.cell 5
  have p6 := h.cell 6
  have p7 := h.cell 7
  have p8 := h.cell 8
  have p9 := h.cell 9
  have p10 := h.cell 10
  simp at p0 p1 p2 p3 p4 p5 p6 p7 p8 p9 p10
  have s0 := k.cell 0
  have s1 := k.cell 1
  have s2 := k.cell 2
  simp at s0 s1 s2
  unfold results
  simp [hr, h2, h3, h4, go_sem, p0, p1, p2, p3, p4, p5, p6, p7, p8, p9, p10, s0, s1, s2]
end Go.Proofs.YtbbocbdoiealoaaGreatDoor
