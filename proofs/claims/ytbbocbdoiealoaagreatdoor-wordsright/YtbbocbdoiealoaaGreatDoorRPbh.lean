import Derived.BigGuardPart
import Derived.Test.YtbbocbdoiealoaaGreatDoorRPbg
import Derived.Test.YtbbocbdoiealoaaGreatDoorRPba
set_option linter.unusedVariables false
set_option linter.unusedSimpArgs false
namespace Go.Proofs.YtbbocbdoiealoaaGreatDoor
open Go.RowKit Go.Shelf
attribute [local go_sem] undef
theorem cmd_ne {c d : Cmd} (h : c = d) : c.verb = d.verb ∧ c.keys = d.keys ∧ c.flags = d.flags ∧ c.exp = d.exp ∧ c.tok = d.tok ∧ c.del = d.del ∧ c.nr = d.nr ∧ c.mt = d.mt ∧ c.what = d.what := by
  subst h; exact ⟨rfl, rfl, rfl, rfl, rfl, rfl, rfl, rfl, rfl⟩
theorem cmd_eq {c d : Cmd} (h1 : c.verb = d.verb) (h2 : c.keys = d.keys) (h3 : c.flags = d.flags) (h4 : c.exp = d.exp) (h5 : c.tok = d.tok) (h6 : c.del = d.del) (h7 : c.nr = d.nr) (h8 : c.mt = d.mt) (h9 : c.what = d.what) : c = d := by
  obtain ⟨a1, a2, a3, a4, a5, a6, a7, a8, a9⟩ := c
  obtain ⟨b1, b2, b3, b4, b5, b6, b7, b8, b9⟩ := d
  simp only at h1 h2 h3 h4 h5 h6 h7 h8 h9
  rw [h1, h2, h3, h4, h5, h6, h7, h8, h9]
set_option maxRecDepth 100000 in
set_option maxHeartbeats 8000000 in
theorem same_81 {w : World} (c d : Cmd) (lg lh : Bool) (kv kv' dv dv' mv mv' : Value) (hk : Ws w kv c.keys) (hk' : Ws w kv' d.keys) (hn : c.keys.length ≤ 1000000000) (hn' : d.keys.length ≤ 1000000000) (hm : Fg w mv c.mt) (hm' : Fg w mv' d.mt) (hmn : c.mt.length ≤ 1000000000) (hmn' : d.mt.length ≤ 1000000000) (hd : ∃ a n c', dv = .slice a n c') (hd' : ∃ a n c', dv' = .slice a n c') :
    Calls Tryz.prog 86 #[.agg (cmB c kv dv mv lg), .agg (cmB d kv' dv' mv' lh)] w fun e w' => ∃ b : Bool, (b = true ↔ c = d ∧ lg = lh) ∧ e = .returned (.bool b) ∧ w.grownBy w' none := by
  obtain ⟨a1, n1, c1, rfl⟩ := hk.shape
  obtain ⟨a2, n2, c2, rfl⟩ := hk'.shape
  obtain ⟨a3, n3, c3, rfl⟩ := hm.shape
  obtain ⟨a4, n4, c4, rfl⟩ := hm'.shape
  obtain ⟨a5, n5, c5, rfl⟩ := hd
  obtain ⟨a6, n6, c6, rfl⟩ := hd'
  have h28 := fun W (hg : w.grownBy W none) => eqW_128 (hk.kept0 hg) (hk'.kept0 hg) hn hn'
  have h29 := fun W (hg : w.grownBy W none) => eqF_129 (hm.kept hg) (hm'.kept hg) hmn hmn'
  have b1 := Box.new w 41 (cmB c (.slice a1 n1 c1) (.slice a5 n5 c5) (.slice a3 n3 c3) lg)
  have b2 := Box.new (w.alloc (.cells (cmB c (.slice a1 n1 c1) (.slice a5 n5 c5) (.slice a3 n3 c3) lg) 41)) 41 (cmB d (.slice a2 n2 c2) (.slice a6 n6 c6) (.slice a4 n4 c4) lh)
  simp only [World.size_alloc] at b2
  have gA := gb_alloc (gb_refl (w.alloc (.cells (cmB c (.slice a1 n1 c1) (.slice a5 n5 c5) (.slice a3 n3 c3) lg) 41)) none) (.cells (cmB d (.slice a2 n2 c2) (.slice a6 n6 c6) (.slice a4 n4 c4) lh) 41)
  have gW := gb_trans (gb_alloc (gb_refl w none) (.cells (cmB c (.slice a1 n1 c1) (.slice a5 n5 c5) (.slice a3 n3 c3) lg) 41)) gA
  obtain ⟨KB, hKB⟩ : ∃ b, decide (c.keys = d.keys) = b := ⟨_, rfl⟩
  simp only [hKB] at h28
  have HKB := Lib.hid hKB
  clear hk hk' hm hm' hKB
  go_enter Tryz.func86, Tryz.ntmps86
  go_wp2_with (first
    | (go_at_call 133; go_must ((with_reducible refine (h28 _ gW).mono ?_); rintro e w3 ⟨rfl, hg3⟩; (have z1 := (b1.kept gA (by simp)).kept hg3 (by simp)); (have z2 := b2.kept hg3 (by simp)); (have p0 : w3.cell? ⟨w.heap.size, 0, none⟩ = some (.int .i64 c.verb) := z1.cell 0); (have p1 : w3.cell? ⟨w.heap.size, 1, none⟩ = some (.slice a1 n1 c1) := z1.cell 1); (have p2 : w3.cell? ⟨w.heap.size, 2, none⟩ = some (.int .u64 c.flags) := z1.cell 2); (have p3 : w3.cell? ⟨w.heap.size, 3, none⟩ = some (.int .i64 c.exp) := z1.cell 3); (have p4 : w3.cell? ⟨w.heap.size, 4, none⟩ = some (.int .u64 c.tok) := z1.cell 4); (have p5 : w3.cell? ⟨w.heap.size, 5, none⟩ = some (.int .u64 c.del) := z1.cell 5); (have p6 : w3.cell? ⟨w.heap.size, 6, none⟩ = some (.slice a5 n5 c5) := z1.cell 6); (have p7 : w3.cell? ⟨w.heap.size, 7, none⟩ = some (.bool c.nr) := z1.cell 7); (have p8 : w3.cell? ⟨w.heap.size, 8, none⟩ = some (.bool lg) := z1.cell 8); (have p9 : w3.cell? ⟨w.heap.size, 9, none⟩ = some (.slice a3 n3 c3) := z1.cell 9); (have p10 : w3.cell? ⟨w.heap.size, 10, none⟩ = some (sv c.what) := z1.cell 10); (have q0 : w3.cell? ⟨w.heap.size + 1, 0, none⟩ = some (.int .i64 d.verb) := z2.cell 0); (have q1 : w3.cell? ⟨w.heap.size + 1, 1, none⟩ = some (.slice a2 n2 c2) := z2.cell 1); (have q2 : w3.cell? ⟨w.heap.size + 1, 2, none⟩ = some (.int .u64 d.flags) := z2.cell 2); (have q3 : w3.cell? ⟨w.heap.size + 1, 3, none⟩ = some (.int .i64 d.exp) := z2.cell 3); (have q4 : w3.cell? ⟨w.heap.size + 1, 4, none⟩ = some (.int .u64 d.tok) := z2.cell 4); (have q5 : w3.cell? ⟨w.heap.size + 1, 5, none⟩ = some (.int .u64 d.del) := z2.cell 5); (have q6 : w3.cell? ⟨w.heap.size + 1, 6, none⟩ = some (.slice a6 n6 c6) := z2.cell 6); (have q7 : w3.cell? ⟨w.heap.size + 1, 7, none⟩ = some (.bool d.nr) := z2.cell 7); (have q8 : w3.cell? ⟨w.heap.size + 1, 8, none⟩ = some (.bool lh) := z2.cell 8); (have q9 : w3.cell? ⟨w.heap.size + 1, 9, none⟩ = some (.slice a4 n4 c4) := z2.cell 9); (have q10 : w3.cell? ⟨w.heap.size + 1, 10, none⟩ = some (sv d.what) := z2.cell 10)))
    | (go_at_call 134; go_must ((with_reducible refine (h29 _ (gb_trans gW hg3)).mono ?_); rintro e w4 ⟨MB, hMB, rfl, hg4⟩; (have y1 := z1.kept hg4 (by simp)); (have y2 := z2.kept hg4 (by simp)); (have r10 : w4.cell? ⟨w.heap.size, 10, none⟩ = some (sv c.what) := y1.cell 10); (have s10 : w4.cell? ⟨w.heap.size + 1, 10, none⟩ = some (sv d.what) := y2.cell 10); (have HMB := Lib.hid hMB); clear hMB)))
  · go_ret
    refine ⟨c.what == d.what, ⟨fun hw => ⟨cmd_eq (by assumption) (of_decide_eq_true (by rw [HKB.out]; assumption)) (by omega) (by assumption) (by omega) (by omega) (by assumption) (HMB.out.1 (by assumption)) (by simpa using hw), by assumption⟩, fun hh => ?_⟩, rfl, gb_trans gW (gb_trans hg3 hg4)⟩
    obtain ⟨k1, k2, k3, k4, k5, k6, k7, k8, k9⟩ := cmd_ne hh.1
    simpa using k9
  all_goals
    go_ret
    refine ⟨false, ⟨fun h => Bool.noConfusion h, fun hh => ?_⟩, rfl, by first | exact gb_trans gW (gb_trans hg3 hg4) | exact gb_trans gW hg3 | exact gW⟩
    obtain ⟨hc, hl⟩ := hh
    obtain ⟨k1, k2, k3, k4, k5, k6, k7, k8, k9⟩ := cmd_ne hc
    have hkb : KB = true := by rw [← HKB.out]; exact decide_eq_true k2
    first
      | contradiction
      | omega
      | (have hmb := HMB.out.2 k8; contradiction)
end Go.Proofs.YtbbocbdoiealoaaGreatDoor
namespace Go.Proofs.YtbbocbdoiealoaaGreatDoor
def mayT1 (i : Nat) (c : Cmd) : Bool := (decide (1 < c.keys.length) && decide (4 ≤ i)) || (decide (0 < c.keys.length) != (dr i).shape.contains 75)
def mayT2 (i : Nat) (c : Cmd) : Bool := (((decide (4294967295 < c.flags) || (decide (0 < c.flags) && !(dr i).shape.contains 70)) || (decide (c.exp ≠ 0) && !((dr i).shape.contains 84 || (dr i).shape.contains 83))) || (decide (0 < c.tok) && !(dr i).shape.contains 67)) || (decide (0 < c.del) && !(dr i).shape.contains 68)
def mayT3 (i : Nat) (c : Cmd) : Bool := (decide (0 < c.mt.length) && !(dr i).shape.contains 71) || decide (flS ((i : Int) + 1) [] c.mt ≠ [])
def mayT4 (i : Nat) (c : Cmd) : Bool := decide (c.what ≠ []) && (decide (i ≠ 18) || decide (c.what ≠ reset))
def mayT5 (i : Nat) (c : Cmd) (n : Nat) : Bool := (((decide (i = 14) && decide (c.exp < 0)) || (c.nr && !(dr i).reply)) || (decide (0 < n) && !(dr i).block)) || decide (2147483647 < n)
def keyT (k : Bs) : Bool := plain k && decide (1 ≤ k.length) && decide (k.length ≤ 250)
theorem keyT_iff (k : Bs) : keyT k = true ↔ keyP k := by
  unfold keyT keyP
  simp only [Bool.and_eq_true, decide_eq_true_eq]
  constructor
  · rintro ⟨⟨h1, h2⟩, h3⟩
    exact ⟨List.length_pos_iff.mp (by omega), h3, h1⟩
  · rintro ⟨h1, h2, h3⟩
    exact ⟨⟨h3, List.length_pos_iff.mpr h1⟩, h2⟩
def mayB (i : Nat) (c : Cmd) (n : Nat) (lg : Bool) : Bool := !lg && (!mayT1 i c && (c.keys.all keyT && (!mayT2 i c && (!mayT3 i c && (!mayT4 i c && (!mayT5 i c n && decide ((lnB i c n).length ≤ 2048)))))))
theorem mayB_iff {i : Nat} {c : Cmd} {n : Nat} {lg : Bool} (hv : c.verb = (i : Int) + 1) : mayB i c n lg = true ↔ lg = false ∧ MayP i c n ∧ (lnB i c n).length ≤ 2048 := by
  unfold mayB
  simp only [Bool.and_eq_true, Bool.not_eq_true', decide_eq_true_eq]
  constructor
  · rintro ⟨h0, h1, hk, h2, h3, h4, h5, hl⟩
    refine ⟨h0, ?_, hl⟩
    simp only [mayT1, mayT2, mayT3, mayT4, mayT5, Bool.or_eq_false_iff, Bool.and_eq_false_iff, decide_eq_false_iff_not, Bool.not_eq_false', List.contains_iff_mem, bne_eq_false_iff_eq] at h1 h2 h3 h4 h5
    refine ⟨hv, ?_, ?_, ?_, ?_, ?_, ?_, ?_, ?_, ?_, ?_, ?_, ?_, ?_, ?_, ?_⟩
    · intro h; rcases h1.1 with h | h <;> omega
    · have := h1.2
      rw [← List.length_pos_iff, ← List.contains_iff_mem, ← this, decide_eq_true_eq]
    · intro k h; exact (keyT_iff k).mp (List.all_eq_true.mp hk k h)
    · have := h2.1.1.1.1; omega
    · intro h; rcases h2.1.1.1.2 with g | g
      · omega
      · exact g
    · intro h; rcases h2.1.1.2 with g | g
      · exact absurd h g
      · simpa using g
    · intro h; rcases h2.1.2 with g | g
      · omega
      · exact g
    · intro h; rcases h2.2 with g | g
      · omega
      · exact g
    · intro h; rcases h3.1 with g | g
      · exact absurd (List.length_pos_iff.mpr h) g
      · exact g
    · rw [hv]; exact Classical.not_not.mp h3.2
    · intro h
      rcases h4 with g | g
      · exact absurd h g
      · exact ⟨Classical.not_not.mp g.1, Classical.not_not.mp g.2⟩
    · intro h; rcases h5.1.1.1 with g | g
      · exact absurd h g
      · omega
    · intro h; rcases h5.1.1.2 with g | g
      · rw [h] at g; cases g
      · exact g
    · intro h; rcases h5.1.2 with g | g
      · omega
      · exact g
    · have := h5.2; omega
  · rintro ⟨h0, h, hl⟩
    refine ⟨h0, ?_, ?_, ?_, ?_, ?_, ?_, hl⟩
    · unfold mayT1
      simp only [Bool.or_eq_false_iff, Bool.and_eq_false_iff, decide_eq_false_iff_not, bne_eq_false_iff_eq]
      refine ⟨?_, ?_⟩
      · by_cases h4 : 4 ≤ i
        · have := h.one h4; left; omega
        · right; exact h4
      · have := h.keyed
        rw [Bool.eq_iff_iff, decide_eq_true_eq, List.contains_iff_mem, ← this, List.length_pos_iff]
    · exact List.all_eq_true.mpr fun k hk => (keyT_iff k).mpr (h.keys k hk)
    · simp only [mayT2, Bool.or_eq_false_iff, Bool.and_eq_false_iff, decide_eq_false_iff_not, Bool.not_eq_false', List.contains_iff_mem]
      refine ⟨⟨⟨⟨?_, ?_⟩, ?_⟩, ?_⟩, ?_⟩
      · have := h.flags; omega
      · by_cases e : c.flags = 0
        · left; omega
        · right; exact h.hF e
      · by_cases e : c.exp = 0
        · left; exact fun g => g e
        · right; simpa using h.hT e
      · by_cases e : c.tok = 0
        · left; omega
        · right; exact h.hC e
      · by_cases e : c.del = 0
        · left; omega
        · right; exact h.hD e
    · simp only [mayT3, Bool.or_eq_false_iff, Bool.and_eq_false_iff, decide_eq_false_iff_not, Bool.not_eq_false', List.contains_iff_mem]
      refine ⟨?_, ?_⟩
      · by_cases e : c.mt = []
        · left; rw [e]; simp
        · right; exact h.hG e
      · have := h.mt; rw [hv] at this; exact fun g => g this
    · simp only [mayT4, Bool.or_eq_false_iff, Bool.and_eq_false_iff, decide_eq_false_iff_not]
      by_cases e : c.what = []
      · left; exact fun g => g e
      · right; exact ⟨fun g => g (h.what e).1, fun g => g (h.what e).2⟩
    · simp only [mayT5, Bool.or_eq_false_iff, Bool.and_eq_false_iff, decide_eq_false_iff_not, Bool.not_eq_false']
      refine ⟨⟨⟨?_, ?_⟩, ?_⟩, ?_⟩
      · by_cases e : i = 14
        · right; have := h.flush e; omega
        · left; exact e
      · cases e : c.nr with
        | false => left; rfl
        | true => right; exact h.nr e
      · by_cases e : n = 0
        · left; omega
        · right; exact h.data e
      · have := h.most; omega
end Go.Proofs.YtbbocbdoiealoaaGreatDoor
