import Derived.Test.YtobegepebochkaaGreatDoorSPbl
import Derived.Test.YtobegepebochkaaGreatDoorSTs
set_option linter.unusedVariables false
set_option linter.unusedSimpArgs false
namespace Go.Proofs.YtobegepebochkaaGreatDoor
open Go.RowKit Go.Maps
theorem tl_get : ∀ (q : List Tld) (k : Nat) (x : Tld) (j : Nat), q[k]? = some x → j < 16 → (q.flatMap tldL)[k * 16 + j]? = (tldL x)[j]?
  | [], k, x, j, h, _ => by simp at h
  | y :: q, 0, x, j, h, hj => by
    simp at h
    subst h
    rw [List.flatMap_cons, Nat.zero_mul, Nat.zero_add, List.getElem?_append_left (by simpa using hj)]
  | y :: q, k + 1, x, j, h, hj => by
    simp at h
    have e1 : (k + 1) * 16 + j = (tldL y).length + (k * 16 + j) := by simp; omega
    rw [List.flatMap_cons, e1, List.getElem?_append_right (by omega), Nat.add_sub_cancel_left]
    exact tl_get q k x j h hj
structure Sq (w : World) (v : Value) (q : List Tld) : Prop where
  shape : ∃ a c, v = .slice a q.length c ∧ q.length ≤ c ∧ c ≤ 9223372036854775807
  cell : ∀ k x, q[k]? = some x → ∃ g c, v = .slice (some ⟨g, 0, none⟩) q.length c ∧ ∀ j u, (tldL x)[j]? = some u → w.cell? ⟨g, k * 16 + j, none⟩ = some u
  sr : ∀ x ∈ q, Sr w x.s x.ck x.cd x.cm
theorem Ss.sq {w : World} {B : Nat} {X : Nat → Prop} {v : Value} {q : List Tld} (h : Ss w B X v q) (hd : ∀ x ∈ q, x.s.data.length ≤ 1099511627776) : Sq w v q := by
  obtain ⟨a, c, e, -, h1, h2, h3⟩ := row_shape h.row
  unfold maxLen at h2
  refine ⟨⟨a, c, e, h1, by omega⟩, fun k x hx => ?_, fun x hx => (h.all x hx).sr (hd x hx)⟩
  have hk := (List.getElem?_eq_some_iff.1 hx).1
  obtain ⟨g, rfl⟩ := h3 (by omega)
  subst e
  refine ⟨g, c, rfl, fun j u hu => row_cell h.row _ _ ?_⟩
  have hj := (List.getElem?_eq_some_iff.1 hu).1
  rw [tl_get q k x j hx (by simpa using hj)]
  exact hu
end Go.Proofs.YtobegepebochkaaGreatDoor
namespace Go.Proofs.YtobegepebochkaaGreatDoor
open Go.RowKit Go.Maps
structure Sg2 (w : World) (s : Stp) (ck cd cm : Value) : Prop where
  k : Ws w ck s.cmd.keys
  d : By w cd s.data
  m : Fg w cm s.cmd.mt
  kn : s.cmd.keys.length ≤ 9223372036854775807
  mn : s.cmd.mt.length ≤ 9223372036854775807
theorem Sg2.kept0 {w w' : World} {s : Stp} {ck cd cm : Value} (h : Sg2 w s ck cd cm) (hf : w.grownBy w' none) : Sg2 w' s ck cd cm := ⟨h.k.kept0 hf, h.d.kept0 hf, h.m.kept hf, h.kn, h.mn⟩
set_option maxRecDepth 100000 in
set_option maxHeartbeats 4000000 in
theorem samestep_39g {w : World} (s : Stp) (ck ck' cd cd' cm cm' : Value) (h : Sg2 w s ck cd cm) (h' : Sg2 w s ck' cd' cm') :
    Calls Tryz.prog 39 #[.agg (stpA s ck cd cm), .agg (stpA s ck' cd' cm')] w fun e w' => e = .returned (.bool true) ∧ w.grownBy w' none := by
  obtain ⟨a1, n1, c1, rfl⟩ := h.k.shape
  obtain ⟨a2, n2, c2, rfl⟩ := h'.k.shape
  obtain ⟨a3, n3, c3, rfl⟩ := h.m.shape
  obtain ⟨a4, n4, c4, rfl⟩ := h'.m.shape
  obtain ⟨a5, n5, c5, rfl⟩ := h.d.shape3
  obtain ⟨a6, n6, c6, rfl⟩ := h'.d.shape3
  have b1 := Box.new w 86 (stpA s (.slice a1 n1 c1) (.slice a5 n5 c5) (.slice a3 n3 c3))
  have b2 := Box.new (w.alloc (.cells (stpA s (.slice a1 n1 c1) (.slice a5 n5 c5) (.slice a3 n3 c3)) 86)) 86 (stpA s (.slice a2 n2 c2) (.slice a6 n6 c6) (.slice a4 n4 c4))
  simp only [World.size_alloc] at b2
  have gA := gb_alloc (gb_refl (w.alloc (.cells (stpA s (.slice a1 n1 c1) (.slice a5 n5 c5) (.slice a3 n3 c3)) 86)) none) (.cells (stpA s (.slice a2 n2 c2) (.slice a6 n6 c6) (.slice a4 n4 c4)) 86)
  have gW := gb_trans (gb_alloc (gb_refl w none) (.cells (stpA s (.slice a1 n1 c1) (.slice a5 n5 c5) (.slice a3 n3 c3)) 86)) gA
  have h16 := same_16g s.cmd s.data s.large (.slice a1 n1 c1) (.slice a2 n2 c2) (.slice a5 n5 c5) (.slice a6 n6 c6) (.slice a3 n3 c3) (.slice a4 n4 c4) (h.k.kept0 gW) (h'.k.kept0 gW) h.kn (h.m.kept gW) (h'.m.kept gW) h.mn (h.d.kept0 gW) (h'.d.kept0 gW)
  clear h h'
  go_enter Tryz.func39, Tryz.ntmps39
  go_wp2_with (go_at_call 16; go_must ((with_reducible refine h16.mono ?_); rintro e w3 ⟨rfl, hg3⟩; (have z1 := (b1.kept gA (by simp)).kept hg3 (by simp)); (have z2 := b2.kept hg3 (by simp)); (have p0 : w3.cell? ⟨w.heap.size, 0, none⟩ = some (.int .i64 s.cmd.verb) := z1.cell 0); (have p1 : w3.cell? ⟨w.heap.size, 1, none⟩ = some (.slice a1 n1 c1) := z1.cell 1); (have p2 : w3.cell? ⟨w.heap.size, 2, none⟩ = some (.int .u64 s.cmd.flags) := z1.cell 2); (have p3 : w3.cell? ⟨w.heap.size, 3, none⟩ = some (.int .i64 s.cmd.exp) := z1.cell 3); (have p4 : w3.cell? ⟨w.heap.size, 4, none⟩ = some (.int .u64 s.cmd.tok) := z1.cell 4); (have p5 : w3.cell? ⟨w.heap.size, 5, none⟩ = some (.int .u64 s.cmd.del) := z1.cell 5); (have p6 : w3.cell? ⟨w.heap.size, 6, none⟩ = some (.slice a5 n5 c5) := z1.cell 6); (have p7 : w3.cell? ⟨w.heap.size, 7, none⟩ = some (.bool s.cmd.nr) := z1.cell 7); (have p8 : w3.cell? ⟨w.heap.size, 8, none⟩ = some (.bool s.large) := z1.cell 8); (have p9 : w3.cell? ⟨w.heap.size, 9, none⟩ = some (.slice a3 n3 c3) := z1.cell 9); (have p10 : w3.cell? ⟨w.heap.size, 10, none⟩ = some (sv s.cmd.what) := z1.cell 10); (have p11 : w3.cell? ⟨w.heap.size, 11, none⟩ = some (.int .i64 s.wk) := z1.cell 11); (have p12 : w3.cell? ⟨w.heap.size, 12, none⟩ = some (sv s.wt) := z1.cell 12); (have p13 : w3.cell? ⟨w.heap.size, 13, none⟩ = some (.int .i64 s.wp) := z1.cell 13); (have p14 : w3.cell? ⟨w.heap.size, 14, none⟩ = some (.int .i64 s.frm) := z1.cell 14); (have p15 : w3.cell? ⟨w.heap.size, 15, none⟩ = some (.int .i64 s.to) := z1.cell 15); (have q0 : w3.cell? ⟨w.heap.size + 1, 0, none⟩ = some (.int .i64 s.cmd.verb) := z2.cell 0); (have q1 : w3.cell? ⟨w.heap.size + 1, 1, none⟩ = some (.slice a2 n2 c2) := z2.cell 1); (have q2 : w3.cell? ⟨w.heap.size + 1, 2, none⟩ = some (.int .u64 s.cmd.flags) := z2.cell 2); (have q3 : w3.cell? ⟨w.heap.size + 1, 3, none⟩ = some (.int .i64 s.cmd.exp) := z2.cell 3); (have q4 : w3.cell? ⟨w.heap.size + 1, 4, none⟩ = some (.int .u64 s.cmd.tok) := z2.cell 4); (have q5 : w3.cell? ⟨w.heap.size + 1, 5, none⟩ = some (.int .u64 s.cmd.del) := z2.cell 5); (have q6 : w3.cell? ⟨w.heap.size + 1, 6, none⟩ = some (.slice a6 n6 c6) := z2.cell 6); (have q7 : w3.cell? ⟨w.heap.size + 1, 7, none⟩ = some (.bool s.cmd.nr) := z2.cell 7); (have q8 : w3.cell? ⟨w.heap.size + 1, 8, none⟩ = some (.bool s.large) := z2.cell 8); (have q9 : w3.cell? ⟨w.heap.size + 1, 9, none⟩ = some (.slice a4 n4 c4) := z2.cell 9); (have q10 : w3.cell? ⟨w.heap.size + 1, 10, none⟩ = some (sv s.cmd.what) := z2.cell 10); (have q11 : w3.cell? ⟨w.heap.size + 1, 11, none⟩ = some (.int .i64 s.wk) := z2.cell 11); (have q12 : w3.cell? ⟨w.heap.size + 1, 12, none⟩ = some (sv s.wt) := z2.cell 12); (have q13 : w3.cell? ⟨w.heap.size + 1, 13, none⟩ = some (.int .i64 s.wp) := z2.cell 13); (have q14 : w3.cell? ⟨w.heap.size + 1, 14, none⟩ = some (.int .i64 s.frm) := z2.cell 14); (have q15 : w3.cell? ⟨w.heap.size + 1, 15, none⟩ = some (.int .i64 s.to) := z2.cell 15); (have g3 := gb_trans gW hg3)))
  go_ret
  exact ⟨rfl, g3⟩
structure Sqg (w : World) (v : Value) (q : List Tld) : Prop where
  shape : ∃ a c, v = .slice a q.length c ∧ q.length ≤ c ∧ c ≤ 9223372036854775807
  cell : ∀ k x, q[k]? = some x → ∃ g c, v = .slice (some ⟨g, 0, none⟩) q.length c ∧ ∀ j u, (tldL x)[j]? = some u → w.cell? ⟨g, k * 16 + j, none⟩ = some u
  sr : ∀ x ∈ q, Sg2 w x.s x.ck x.cd x.cm
set_option maxRecDepth 100000 in
set_option maxHeartbeats 4000000 in
theorem samesteps_28g {w : World} {u v : Value} {q r : List Tld} (hu : Sqg w u q) (hv : Sqg w v r) (hs : q.map Tld.s = r.map Tld.s) :
    Calls Tryz.prog 28 #[u, v] w fun e w' => e = .returned (.bool true) ∧ w.grownBy w' none := by
  obtain ⟨ua, uc, rfl, hu1, hu2⟩ := hu.shape
  obtain ⟨va, vc, rfl, hv1, hv2⟩ := hv.shape
  have hlen : r.length = q.length := by have := congrArg List.length hs; simpa using this.symm
  obtain ⟨n, hn⟩ : ∃ n, q.length = n := ⟨_, rfl⟩
  have hq := hu.cell
  have hr := hv.cell
  rw [hlen, hn] at hr hv1 ⊢
  rw [hn] at hq hu1
  go_enter Tryz.func28, Tryz.ntmps28
  go_wp2
  go_loopw [5] (fun x wr => ∃ k : Nat, k ≤ n ∧ x = .int .i64 k ∧ w.grownBy wr none) (fun x _ => n - (intOf x).toNat)
  case atStart => exact ⟨0, by omega, rfl, gb_refl _ _⟩
  case round =>
    obtain ⟨k, hk, rfl, hg⟩ := hrel
    rcases (by omega : k < n ∨ k = n) with hlt | rfl
    · obtain ⟨⟨s, ck1, cd1, cm1⟩, hx⟩ : ∃ x, q[k]? = some x := ⟨_, List.getElem?_eq_getElem (by omega)⟩
      obtain ⟨⟨s2, ck2, cd2, cm2⟩, hy⟩ : ∃ x, r[k]? = some x := ⟨_, List.getElem?_eq_getElem (by omega)⟩
      have hss : s = s2 := by
        have h1 := congrArg (fun l => l[k]?) hs
        simp only [List.getElem?_map, hx, hy, Option.map_some] at h1
        injection h1
      subst hss
      obtain ⟨g1, cc1, e1, hA⟩ := hq k _ hx
      obtain ⟨g2, cc2, e2, hB⟩ := hr k _ hy
      injection e1 with e1 _ e1c
      injection e2 with e2 _ e2c
      subst e1 e2 e1c e2c
      have s1 := hu.sr _ (List.mem_of_getElem? hx)
      have s2 := hv.sr _ (List.mem_of_getElem? hy)
      obtain ⟨aA1, nA1, cA1, rfl⟩ := s1.k.shape
      obtain ⟨aA3, nA3, cA3, rfl⟩ := s1.m.shape
      obtain ⟨aA2, nA2, cA2, rfl⟩ := s1.d.shape3
      obtain ⟨aB1, nB1, cB1, rfl⟩ := s2.k.shape
      obtain ⟨aB3, nB3, cB3, rfl⟩ := s2.m.shape
      obtain ⟨aB2, nB2, cB2, rfl⟩ := s2.d.shape3
      have p0 : w.cell? ⟨g1, k * 16, none⟩ = some (.int .i64 s.cmd.verb) := hA 0 _ rfl
      have p1 : w.cell? ⟨g1, k * 16 + 1, none⟩ = some (.slice aA1 nA1 cA1) := hA 1 _ rfl
      have p2 : w.cell? ⟨g1, k * 16 + 2, none⟩ = some (.int .u64 s.cmd.flags) := hA 2 _ rfl
      have p3 : w.cell? ⟨g1, k * 16 + 3, none⟩ = some (.int .i64 s.cmd.exp) := hA 3 _ rfl
      have p4 : w.cell? ⟨g1, k * 16 + 4, none⟩ = some (.int .u64 s.cmd.tok) := hA 4 _ rfl
      have p5 : w.cell? ⟨g1, k * 16 + 5, none⟩ = some (.int .u64 s.cmd.del) := hA 5 _ rfl
      have p6 : w.cell? ⟨g1, k * 16 + 6, none⟩ = some (.slice aA2 nA2 cA2) := hA 6 _ rfl
      have p7 : w.cell? ⟨g1, k * 16 + 7, none⟩ = some (.bool s.cmd.nr) := hA 7 _ rfl
      have p8 : w.cell? ⟨g1, k * 16 + 8, none⟩ = some (.bool s.large) := hA 8 _ rfl
      have p9 : w.cell? ⟨g1, k * 16 + 9, none⟩ = some (.slice aA3 nA3 cA3) := hA 9 _ rfl
      have p10 : w.cell? ⟨g1, k * 16 + 10, none⟩ = some (sv s.cmd.what) := hA 10 _ rfl
      have p11 : w.cell? ⟨g1, k * 16 + 11, none⟩ = some (.int .i64 s.wk) := hA 11 _ rfl
      have p12 : w.cell? ⟨g1, k * 16 + 12, none⟩ = some (sv s.wt) := hA 12 _ rfl
      have p13 : w.cell? ⟨g1, k * 16 + 13, none⟩ = some (.int .i64 s.wp) := hA 13 _ rfl
      have p14 : w.cell? ⟨g1, k * 16 + 14, none⟩ = some (.int .i64 s.frm) := hA 14 _ rfl
      have p15 : w.cell? ⟨g1, k * 16 + 15, none⟩ = some (.int .i64 s.to) := hA 15 _ rfl
      have q0 : w.cell? ⟨g2, k * 16, none⟩ = some (.int .i64 s.cmd.verb) := hB 0 _ rfl
      have q1 : w.cell? ⟨g2, k * 16 + 1, none⟩ = some (.slice aB1 nB1 cB1) := hB 1 _ rfl
      have q2 : w.cell? ⟨g2, k * 16 + 2, none⟩ = some (.int .u64 s.cmd.flags) := hB 2 _ rfl
      have q3 : w.cell? ⟨g2, k * 16 + 3, none⟩ = some (.int .i64 s.cmd.exp) := hB 3 _ rfl
      have q4 : w.cell? ⟨g2, k * 16 + 4, none⟩ = some (.int .u64 s.cmd.tok) := hB 4 _ rfl
      have q5 : w.cell? ⟨g2, k * 16 + 5, none⟩ = some (.int .u64 s.cmd.del) := hB 5 _ rfl
      have q6 : w.cell? ⟨g2, k * 16 + 6, none⟩ = some (.slice aB2 nB2 cB2) := hB 6 _ rfl
      have q7 : w.cell? ⟨g2, k * 16 + 7, none⟩ = some (.bool s.cmd.nr) := hB 7 _ rfl
      have q8 : w.cell? ⟨g2, k * 16 + 8, none⟩ = some (.bool s.large) := hB 8 _ rfl
      have q9 : w.cell? ⟨g2, k * 16 + 9, none⟩ = some (.slice aB3 nB3 cB3) := hB 9 _ rfl
      have q10 : w.cell? ⟨g2, k * 16 + 10, none⟩ = some (sv s.cmd.what) := hB 10 _ rfl
      have q11 : w.cell? ⟨g2, k * 16 + 11, none⟩ = some (.int .i64 s.wk) := hB 11 _ rfl
      have q12 : w.cell? ⟨g2, k * 16 + 12, none⟩ = some (sv s.wt) := hB 12 _ rfl
      have q13 : w.cell? ⟨g2, k * 16 + 13, none⟩ = some (.int .i64 s.wp) := hB 13 _ rfl
      have q14 : w.cell? ⟨g2, k * 16 + 14, none⟩ = some (.int .i64 s.frm) := hB 14 _ rfl
      have q15 : w.cell? ⟨g2, k * 16 + 15, none⟩ = some (.int .i64 s.to) := hB 15 _ rfl
      have h39 := fun W (hg : w.grownBy W none) => samestep_39g s _ _ _ _ _ _ (s1.kept0 hg) (s2.kept0 hg)
      have d1 : ((k : Int) < (n : Int)) := by omega
      clear hq hr hu hv s1 s2 hA hB hx hy hs hn hlen
      go_wp2
      refine wp_region_noPanic ?_
      refine wp_region_held_drew (S := fun W : World => w.grownBy W none) (by kernel_rfl) (gb_drew hg) (fun hg2 => ?_)
      generalize wr.drew = W at hg2 ⊢
      refine wpAnyH_take (i := 0) (oi := { dst := some 17, op := Op.move (Operand.tmp 0), type := 57, pos := _, after := #[], guard := none }) (v := ?_) rfl (by kernel_rfl) (by kernel_rfl) (by kernel_rfl) (fun _ _ _ h => h) (Or.inl ⟨by rfl, ?_⟩) (by first | trivial | assumption) ?_
      rotate_left 1
      · (intro W hSw; go_simp; (try (with_reducible rfl)))
      try simp only [Act.put, List.setIfInBounds_toArray, List.set_cons_zero, List.set_cons_succ]
      refine wpAnyH_take (i := 1) (oi := { dst := some 18, op := Op.move (Operand.tmp 5), type := 3, pos := _, after := #[], guard := none }) (v := ?_) rfl (by kernel_rfl) (by kernel_rfl) (by kernel_rfl) (fun _ _ _ h => h) (Or.inl ⟨by rfl, ?_⟩) (by first | trivial | assumption) ?_
      rotate_left 1
      · (intro W hSw; go_simp; (try (with_reducible rfl)))
      try simp only [Act.put, List.setIfInBounds_toArray, List.set_cons_zero, List.set_cons_succ]
      refine wpAnyH_take (i := 2) (oi := { dst := some 19, op := Op.indexAddr 57 (Operand.tmp 17) (Operand.tmp 18), type := 0, pos := _, after := #[{ on := 0, ground := Ground.data }, { on := 1, ground := Ground.data }], guard := none }) (v := ?_) rfl (by kernel_rfl) (by kernel_rfl) (by kernel_rfl) (fun _ _ _ h => h) (Or.inl ⟨by rfl, ?_⟩) (by first | trivial | assumption) ?_
      rotate_left 1
      · (intro W hSw; go_simp; (try (with_reducible rfl)))
      try simp only [Act.put, List.setIfInBounds_toArray, List.set_cons_zero, List.set_cons_succ]
      refine wpAnyH_take (i := 3) (oi := { dst := some 20, op := Op.load 86 (Operand.tmp 19), type := 86, pos := _, after := #[{ on := 2, ground := Ground.data }], guard := none }) (v := ?_) rfl (by kernel_rfl) (by kernel_rfl) (by kernel_rfl) (fun _ _ _ h => h) (Or.inl ⟨by rfl, ?_⟩) (by first | trivial | assumption) ?_
      rotate_left 1
      · (intro W hSw; have x0 := gb_cellN hSw p0; have x1 := gb_cellN hSw p1; have x2 := gb_cellN hSw p2; have x3 := gb_cellN hSw p3; have x4 := gb_cellN hSw p4; have x5 := gb_cellN hSw p5; have x6 := gb_cellN hSw p6; have x7 := gb_cellN hSw p7; have x8 := gb_cellN hSw p8; have x9 := gb_cellN hSw p9; have x10 := gb_cellN hSw p10; have x11 := gb_cellN hSw p11; have x12 := gb_cellN hSw p12; have x13 := gb_cellN hSw p13; have x14 := gb_cellN hSw p14; have x15 := gb_cellN hSw p15; go_simp; (try (with_reducible rfl)))
      try simp only [Act.put, List.setIfInBounds_toArray, List.set_cons_zero, List.set_cons_succ]
      refine wpAnyH_take (i := 4) (oi := { dst := some 21, op := Op.move (Operand.tmp 1), type := 57, pos := _, after := #[], guard := none }) (v := ?_) rfl (by kernel_rfl) (by kernel_rfl) (by kernel_rfl) (fun _ _ _ h => h) (Or.inl ⟨by rfl, ?_⟩) (by first | trivial | assumption) ?_
      rotate_left 1
      · (intro W hSw; go_simp; (try (with_reducible rfl)))
      try simp only [Act.put, List.setIfInBounds_toArray, List.set_cons_zero, List.set_cons_succ]
      refine wpAnyH_take (i := 5) (oi := { dst := some 22, op := Op.move (Operand.tmp 5), type := 3, pos := _, after := #[], guard := none }) (v := ?_) rfl (by kernel_rfl) (by kernel_rfl) (by kernel_rfl) (fun _ _ _ h => h) (Or.inl ⟨by rfl, ?_⟩) (by first | trivial | assumption) ?_
      rotate_left 1
      · (intro W hSw; go_simp; (try (with_reducible rfl)))
      try simp only [Act.put, List.setIfInBounds_toArray, List.set_cons_zero, List.set_cons_succ]
      refine wpAnyH_take (i := 6) (oi := { dst := some 23, op := Op.indexAddr 57 (Operand.tmp 21) (Operand.tmp 22), type := 0, pos := _, after := #[{ on := 4, ground := Ground.data }, { on := 5, ground := Ground.data }], guard := none }) (v := ?_) rfl (by kernel_rfl) (by kernel_rfl) (by kernel_rfl) (fun _ _ _ h => h) (Or.inl ⟨by rfl, ?_⟩) (by first | trivial | assumption) ?_
      rotate_left 1
      · (intro W hSw; go_simp; (try (with_reducible rfl)))
      try simp only [Act.put, List.setIfInBounds_toArray, List.set_cons_zero, List.set_cons_succ]
      refine wpAnyH_take (i := 7) (oi := { dst := some 24, op := Op.load 86 (Operand.tmp 23), type := 86, pos := _, after := #[{ on := 6, ground := Ground.data }], guard := none }) (v := ?_) rfl (by kernel_rfl) (by kernel_rfl) (by kernel_rfl) (fun _ _ _ h => h) (Or.inl ⟨by rfl, ?_⟩) (by first | trivial | assumption) ?_
      rotate_left 1
      · (intro W hSw; have x0 := gb_cellN hSw q0; have x1 := gb_cellN hSw q1; have x2 := gb_cellN hSw q2; have x3 := gb_cellN hSw q3; have x4 := gb_cellN hSw q4; have x5 := gb_cellN hSw q5; have x6 := gb_cellN hSw q6; have x7 := gb_cellN hSw q7; have x8 := gb_cellN hSw q8; have x9 := gb_cellN hSw q9; have x10 := gb_cellN hSw q10; have x11 := gb_cellN hSw q11; have x12 := gb_cellN hSw q12; have x13 := gb_cellN hSw q13; have x14 := gb_cellN hSw q14; have x15 := gb_cellN hSw q15; go_simp; (try (with_reducible rfl)))
      try simp only [Act.put, List.setIfInBounds_toArray, List.set_cons_zero, List.set_cons_succ]
      refine wpAnyH_ready (rs := [8]) (by kernel_rfl) (by simp) ?_
      refine (AllReadyH.cons rfl (fun K hK => ?_) AllReadyH.nil)
      go_simp
      (with_reducible refine (h39 W hg2).mono ?_)
      rintro e W2 ⟨rfl, hg3⟩
      have hg4 := gb_trans hg2 hg3
      refine hK.out _ _ hg4 (fun hS => ?_)
      clear hK K hS
      try simp only [Act.put, List.setIfInBounds_toArray, List.set_cons_zero, List.set_cons_succ]
      refine wpAnyH_take (i := 9) (oi := { dst := some 26, op := Op.unOp UnOp.not 4 (Operand.tmp 25), type := 4, pos := _, after := #[{ on := 8, ground := Ground.data }], guard := none }) (v := ?_) rfl (by kernel_rfl) (by kernel_rfl) (by kernel_rfl) (fun _ _ _ h => h) (Or.inl ⟨by rfl, ?_⟩) (by first | trivial | assumption) ?_
      rotate_left 1
      · (intro W hSw; go_simp; (try (with_reducible rfl)))
      try simp only [Act.put, List.setIfInBounds_toArray, List.set_cons_zero, List.set_cons_succ]
      refine wpAnyH_done (by kernel_rfl) ?_ _
      refine NoPanic.normal ?_
      go_wp2
      refine ⟨⟨k + 1, by omega, by simp, hg4⟩, by simp [intOf]; omega⟩
    · have d1 : decide ((k : Int) < (k : Int)) = false := decide_eq_false (by omega)
      go_wp2
      go_ret
      exact ⟨rfl, hg⟩
theorem Sr.g2 {w : World} {s : Stp} {ck cd cm : Value} (h : Sr w s ck cd cm) : Sg2 w s ck cd cm := ⟨h.k, h.d, h.m.fg, h.kn, h.mn⟩
theorem Sq.g2 {w : World} {v : Value} {q : List Tld} (h : Sq w v q) : Sqg w v q := ⟨h.shape, h.cell, fun x hx => (h.sr x hx).g2⟩
end Go.Proofs.YtobegepebochkaaGreatDoor
