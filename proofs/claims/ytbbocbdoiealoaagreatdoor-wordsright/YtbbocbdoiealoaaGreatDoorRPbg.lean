import Derived.Test.YtbbocbdoiealoaaGreatDoorRSb
import Derived.Laws.StructEq
import Derived.Test.YtbbocbdoiealoaaGreatDoorRPbb
set_option linter.unusedVariables false
set_option linter.unusedSimpArgs false
namespace Go.Proofs.YtbbocbdoiealoaaGreatDoor
open Go.RowKit Go.Shelf
set_option maxRecDepth 100000 in
set_option maxHeartbeats 4000000 in
theorem equal_25 {w : World} {u v : Value} {ws : List Bs} (hu : Ws w u ws) (hv : Ws w v ws) (hn : ws.length ≤ 1000000000) :
    Calls Tryz.prog 133 #[u, v] w fun e w' => e = .returned (.bool true) ∧ w.grownBy w' none := by
  obtain ⟨n, hnn⟩ : ∃ n, ws.length = n := ⟨_, rfl⟩
  have hcu : ∃ a c, u = .slice a n c ∧ ∀ i x, ws[i]? = some x → ∃ g o, a = some ⟨g, o, none⟩ ∧ w.cell? ⟨g, o + i, none⟩ = some (sv x) := by
    rcases hu with ⟨rfl, a, c, rfl⟩ | ⟨g, o, c, rfl, _, _, h⟩
    · exact ⟨a, c, by rw [← hnn]; rfl, fun i x hx => by simp at hx⟩
    · exact ⟨_, c, by rw [hnn], fun i x hx => ⟨g, o, rfl, h i x hx⟩⟩
  have hcv : ∃ a c, v = .slice a n c ∧ ∀ i x, ws[i]? = some x → ∃ g o, a = some ⟨g, o, none⟩ ∧ w.cell? ⟨g, o + i, none⟩ = some (sv x) := by
    rcases hv with ⟨rfl, a, c, rfl⟩ | ⟨g, o, c, rfl, _, _, h⟩
    · exact ⟨a, c, by rw [← hnn]; rfl, fun i x hx => by simp at hx⟩
    · exact ⟨_, c, by rw [hnn], fun i x hx => ⟨g, o, rfl, h i x hx⟩⟩
  obtain ⟨ua, uc, rfl, hcu⟩ := hcu
  obtain ⟨va, vc, rfl, hcv⟩ := hcv
  clear hu hv
  go_enter Tryz.func133, Tryz.ntmps133
  go_wp2
  go_loopw [13] (fun x wr => ∃ k : Nat, k ≤ n ∧ x = .int .i64 k ∧ w.grownBy wr none) (fun x _ => n - (intOf x).toNat)
  case atStart => exact ⟨0, by omega, rfl, gb_refl _ _⟩
  case round =>
    obtain ⟨k, hk, rfl, hg⟩ := hrel
    rcases (by omega : k < n ∨ k = n) with hlt | rfl
    · obtain ⟨x, hx⟩ : ∃ x, ws[k]? = some x := ⟨_, List.getElem?_eq_getElem (by omega)⟩
      obtain ⟨g1, o1, rfl, c1⟩ := hcu k x hx
      obtain ⟨g2, o2, rfl, c2⟩ := hcv k x hx
      have c1 := gb_cellN hg c1
      have c2 := gb_cellN hg c2
      have d1 : ((k : Int) < (n : Int)) := by omega
      clear hcu hcv
      go_wp2
      go_quiet (fail)
      go_wp2
      refine ⟨⟨k + 1, by omega, by simp, gb_drewN hg _⟩, by simp [intOf]; omega⟩
    · have d1 : decide ((k : Int) < (k : Int)) = false := decide_eq_false (by omega)
      go_wp2
      go_ret
      exact ⟨rfl, hg⟩
set_option maxRecDepth 100000 in
set_option maxHeartbeats 4000000 in
theorem equalF_nil (a b : Option Addr) (c d : Nat) (w : World) :
    Calls Tryz.prog 134 #[.slice a 0 c, .slice b 0 d] w fun e w' => e = .returned (.bool true) ∧ w.grownBy w' none := by
  go_enter Tryz.func134, Tryz.ntmps134
  go_wp2
  go_loopw [13] (fun x wr => x = .int .i64 0 ∧ wr = w) (fun _ _ => 0)
  case atStart => exact ⟨rfl, rfl⟩
  case round =>
    obtain ⟨rfl, rfl⟩ := hrel
    go_wp2
    go_ret
    exact ⟨rfl, gb_refl _ _⟩
set_option maxRecDepth 100000 in
set_option maxHeartbeats 4000000 in
theorem same_13 {w : World} (c : Cmd) (kv kv' dv dv' mv mv' : Value) (hk : Ws w kv c.keys) (hk' : Ws w kv' c.keys) (hn : c.keys.length ≤ 1000000000) (hm : ∃ a c', mv = .slice a 0 c') (hm' : ∃ a c', mv' = .slice a 0 c') (hd : ∃ a n c', dv = .slice a n c') (hd' : ∃ a n c', dv' = .slice a n c') :
    Calls Tryz.prog 86 #[.agg (cmB c kv dv mv false), .agg (cmB c kv' dv' mv' false)] w fun e w' => e = .returned (.bool true) ∧ w.grownBy w' none := by
  have hks : ∃ a n c', kv = .slice a n c' := by
    rcases hk with ⟨_, a, c, rfl⟩ | ⟨g, o, c, rfl, _⟩ <;> exact ⟨_, _, _, rfl⟩
  have hks' : ∃ a n c', kv' = .slice a n c' := by
    rcases hk' with ⟨_, a, c, rfl⟩ | ⟨g, o, c, rfl, _⟩ <;> exact ⟨_, _, _, rfl⟩
  obtain ⟨a1, n1, c1, rfl⟩ := hks
  obtain ⟨a2, n2, c2, rfl⟩ := hks'
  obtain ⟨a3, c3, rfl⟩ := hm
  obtain ⟨a4, c4, rfl⟩ := hm'
  obtain ⟨a5, n5, c5, rfl⟩ := hd
  obtain ⟨a6, n6, c6, rfl⟩ := hd'
  have h25 := fun W (hg : w.grownBy W none) => equal_25 (hk.kept hg) (hk'.kept hg) hn
  have h26 := fun W => equalF_nil a3 a4 c3 c4 W
  have b1 := Box.new w 41 (cmB c (.slice a1 n1 c1) (.slice a5 n5 c5) (.slice a3 0 c3) false)
  have b2 := Box.new (w.alloc (.cells (cmB c (.slice a1 n1 c1) (.slice a5 n5 c5) (.slice a3 0 c3) false) 41)) 41 (cmB c (.slice a2 n2 c2) (.slice a6 n6 c6) (.slice a4 0 c4) false)
  simp only [World.size_alloc] at b2
  have gA := gb_alloc (gb_refl (w.alloc (.cells (cmB c (.slice a1 n1 c1) (.slice a5 n5 c5) (.slice a3 0 c3) false) 41)) none) (.cells (cmB c (.slice a2 n2 c2) (.slice a6 n6 c6) (.slice a4 0 c4) false) 41)
  have gW := gb_trans (gb_alloc (gb_refl w none) (.cells (cmB c (.slice a1 n1 c1) (.slice a5 n5 c5) (.slice a3 0 c3) false) 41)) gA
  go_enter Tryz.func86, Tryz.ntmps86
  go_wp2_with (first | (go_at_call 133; go_must ((with_reducible refine (h25 _ gW).mono ?_); rintro e w3 ⟨rfl, hg3⟩; (have z1 := (b1.kept gA (by simp)).kept hg3 (by simp)); (have z2 := b2.kept hg3 (by simp)); (have p0 : w3.cell? ⟨w.heap.size, 0, none⟩ = some (.int .i64 c.verb) := z1.cell 0); (have p1 : w3.cell? ⟨w.heap.size, 1, none⟩ = some (.slice a1 n1 c1) := z1.cell 1); (have p2 : w3.cell? ⟨w.heap.size, 2, none⟩ = some (.int .u64 c.flags) := z1.cell 2); (have p3 : w3.cell? ⟨w.heap.size, 3, none⟩ = some (.int .i64 c.exp) := z1.cell 3); (have p4 : w3.cell? ⟨w.heap.size, 4, none⟩ = some (.int .u64 c.tok) := z1.cell 4); (have p5 : w3.cell? ⟨w.heap.size, 5, none⟩ = some (.int .u64 c.del) := z1.cell 5); (have p6 : w3.cell? ⟨w.heap.size, 6, none⟩ = some (.slice a5 n5 c5) := z1.cell 6); (have p7 : w3.cell? ⟨w.heap.size, 7, none⟩ = some (.bool c.nr) := z1.cell 7); (have p8 : w3.cell? ⟨w.heap.size, 8, none⟩ = some (.bool false) := z1.cell 8); (have p9 : w3.cell? ⟨w.heap.size, 9, none⟩ = some (.slice a3 0 c3) := z1.cell 9); (have p10 : w3.cell? ⟨w.heap.size, 10, none⟩ = some (sv c.what) := z1.cell 10); (have q0 : w3.cell? ⟨w.heap.size + 1, 0, none⟩ = some (.int .i64 c.verb) := z2.cell 0); (have q1 : w3.cell? ⟨w.heap.size + 1, 1, none⟩ = some (.slice a2 n2 c2) := z2.cell 1); (have q2 : w3.cell? ⟨w.heap.size + 1, 2, none⟩ = some (.int .u64 c.flags) := z2.cell 2); (have q3 : w3.cell? ⟨w.heap.size + 1, 3, none⟩ = some (.int .i64 c.exp) := z2.cell 3); (have q4 : w3.cell? ⟨w.heap.size + 1, 4, none⟩ = some (.int .u64 c.tok) := z2.cell 4); (have q5 : w3.cell? ⟨w.heap.size + 1, 5, none⟩ = some (.int .u64 c.del) := z2.cell 5); (have q6 : w3.cell? ⟨w.heap.size + 1, 6, none⟩ = some (.slice a6 n6 c6) := z2.cell 6); (have q7 : w3.cell? ⟨w.heap.size + 1, 7, none⟩ = some (.bool c.nr) := z2.cell 7); (have q8 : w3.cell? ⟨w.heap.size + 1, 8, none⟩ = some (.bool false) := z2.cell 8); (have q9 : w3.cell? ⟨w.heap.size + 1, 9, none⟩ = some (.slice a4 0 c4) := z2.cell 9); (have q10 : w3.cell? ⟨w.heap.size + 1, 10, none⟩ = some (sv c.what) := z2.cell 10))) | (go_at_call 134; go_must ((with_reducible refine (h26 _).mono ?_); rintro e w4 ⟨rfl, hg4⟩; (have y1 : w4.cell? ⟨w.heap.size, 10, none⟩ = some (sv c.what) := (z1.kept hg4 (by simp)).cell 10); (have y2 : w4.cell? ⟨w.heap.size + 1, 10, none⟩ = some (sv c.what) := (z2.kept hg4 (by simp)).cell 10))))
  go_ret
  exact ⟨rfl, gb_trans gW (gb_trans hg3 hg4)⟩
end Go.Proofs.YtbbocbdoiealoaaGreatDoor
namespace Go.Proofs.YtbbocbdoiealoaaGreatDoor
open Go.RowKit Go.Shelf
theorem Ws.cells {w : World} {u : Value} {ws : List Bs} (hu : Ws w u ws) : ∃ a c, u = .slice a ws.length c ∧ ∀ i x, ws[i]? = some x → ∃ g o, a = some ⟨g, o, none⟩ ∧ w.cell? ⟨g, o + i, none⟩ = some (sv x) := by
  rcases hu with ⟨rfl, a, c, rfl⟩ | ⟨g, o, c, rfl, _, _, h⟩
  · exact ⟨a, c, rfl, fun i x hx => by simp at hx⟩
  · exact ⟨_, c, rfl, fun i x hx => ⟨g, o, rfl, h i x hx⟩⟩
theorem take_ne {α : Type} {l m : List α} {k : Nat} {x y : α} (hx : l[k]? = some x) (hy : m[k]? = some y) (h : x ≠ y) : l ≠ m := fun e => by
  rw [e, hy] at hx
  exact h (Option.some.inj hx).symm
theorem take_more {α : Type} {l m : List α} {k : Nat} {x : α} (hx : l[k]? = some x) (hy : m[k]? = some x) (h : l.take k = m.take k) : l.take (k + 1) = m.take (k + 1) := by
  rw [List.take_add_one, List.take_add_one, hx, hy, h]
set_option maxRecDepth 100000 in
set_option maxHeartbeats 4000000 in
theorem eqW_128 {w : World} {u v : Value} {ws vs : List Bs} (hu : Ws w u ws) (hv : Ws w v vs) (hn : ws.length ≤ 1000000000) (hm : vs.length ≤ 1000000000) :
    Calls Tryz.prog 133 #[u, v] w fun e w' => e = .returned (.bool (decide (ws = vs))) ∧ w.grownBy w' none := by
  obtain ⟨ua, uc, rfl, hcu⟩ := hu.cells
  obtain ⟨va, vc, rfl, hcv⟩ := hv.cells
  obtain ⟨R, hR⟩ : ∃ b, decide (ws = vs) = b := ⟨_, rfl⟩
  rw [hR]
  have HR := Lib.hid hR
  clear hu hv hR
  by_cases hl : ws.length = vs.length
  · obtain ⟨n, hnn⟩ : ∃ n, ws.length = n := ⟨_, rfl⟩
    have hnv : vs.length = n := hl.symm.trans hnn
    rw [hnn, hnv]
    have HC := Lib.hid hcu
    have HD := Lib.hid hcv
    have HN := Lib.hid hnn
    have HV := Lib.hid hnv
    clear hl hcu hcv
    rw [hnn] at hn
    clear hm hnn hnv
    go_enter Tryz.func133, Tryz.ntmps133
    go_wp2
    go_loopw [13] (fun x wr => ∃ k : Nat, k ≤ n ∧ x = .int .i64 k ∧ w.grownBy wr none ∧ ws.take k = vs.take k) (fun x _ => n - (intOf x).toNat)
    case atStart => exact ⟨0, by omega, rfl, gb_refl _ _, rfl⟩
    case round =>
      obtain ⟨k, hk, rfl, hg, ht⟩ := hrel
      have HT := Lib.hid ht
      clear ht
      rcases (by omega : k < n ∨ k = n) with hlt | rfl
      · obtain ⟨x, hx⟩ : ∃ x, ws[k]? = some x := ⟨_, List.getElem?_eq_getElem (by rw [HN.out]; exact hlt)⟩
        obtain ⟨y, hy⟩ : ∃ x, vs[k]? = some x := ⟨_, List.getElem?_eq_getElem (by rw [HV.out]; exact hlt)⟩
        obtain ⟨g1, o1, rfl, c1⟩ := HC.out k x hx
        obtain ⟨g2, o2, rfl, c2⟩ := HD.out k y hy
        have c1 := gb_cellN hg c1
        have c2 := gb_cellN hg c2
        have d1 : ((k : Int) < (n : Int)) := by omega
        have HX := Lib.hid hx
        have HY := Lib.hid hy
        clear hx hy
        by_cases hxy : x = y
        · subst hxy
          go_wp2
          go_quiet (fail)
          go_wp2
          refine ⟨⟨k + 1, by omega, by simp, gb_drewN hg _, take_more HX.out HY.out HT.out⟩, by simp [intOf]; omega⟩
        · have hne : ws ≠ vs := take_ne HX.out HY.out hxy
          have hb : (x == y) = false := by simpa using hxy
          go_wp2
          go_quiet (fail)
          go_wp2
          all_goals first
            | contradiction
            | (go_ret; exact ⟨by rw [← HR.out]; simp [hne], gb_drewN hg _⟩)
      · have d1 : decide ((k : Int) < (k : Int)) = false := decide_eq_false (by omega)
        have heq : ws = vs := by
          have h := HT.out
          have h1 := List.take_length (l := ws)
          have h2 := List.take_length (l := vs)
          rw [HN.out] at h1
          rw [HV.out] at h2
          rw [← h1, ← h2, h]
        go_wp2
        go_ret
        exact ⟨by rw [← HR.out]; simp [heq], hg⟩
  · have hne : ws ≠ vs := fun e => hl (by rw [e])
    have d0 : ((ws.length : Int) != (vs.length : Int)) = true := by simpa using fun e => hl (by omega)
    go_enter Tryz.func133, Tryz.ntmps133
    go_wp2
    all_goals first
      | omega
      | (go_ret; exact ⟨by rw [← HR.out]; simp [hne], gb_refl _ _⟩)
def flE (x y : Fl) : Bool := x.letter == y.letter && x.arg == y.arg && x.has == y.has
theorem flE_iff (x y : Fl) : flE x y = true ↔ x = y := by
  obtain ⟨a, b, c⟩ := x
  obtain ⟨d, e, f⟩ := y
  unfold flE
  simp only [Bool.and_eq_true, beq_iff_eq, Fl.mk.injEq, and_assoc]
theorem neq79 (x y : Fl) (w : World) : (binOp .neq 79 (.agg #[.int .u8 x.letter.toNat, sv x.arg, .bool x.has]) (.agg #[.int .u8 y.letter.toNat, sv y.arg, .bool y.has])).run Tryz.prog w = .ok (.bool (!flE x y)) w := by
  have u5 := Tryz.underlying5
  have u9 := Tryz.underlying9
  have u4 := Tryz.underlying4
  have a5 := Tryz.isAgg5
  have a9 := Tryz.isAgg9
  have a4 := Tryz.isAgg4
  have z5 := Tryz.sizeOf5
  have z9 := Tryz.sizeOf9
  have z4 := Tryz.sizeOf4
  have hS : Tryz.prog.underlying 79 = some (.struct (Tryz.prog.fieldsOf 79)) := by kernel_rfl
  have hp : Tryz.prog.stoodInHeld 79 = false := by kernel_rfl
  rw [run_neq_struct, show (10000 : Nat) = 9999 + 1 from rfl, run_equalIn_agg w 9999 79 _ _ hS hp]
  simp only [Program.fieldsOf, Tryz.underlying79]
  obtain ⟨a, b, c⟩ := x
  obtain ⟨d, e, f⟩ := y
  unfold flE
  have hn : ((a.toNat : Int) = (d.toNat : Int)) ↔ a = d := by
    rw [Int.natCast_inj, UInt8.toNat_inj]
  go_simp
  by_cases h1 : a = d <;> by_cases h2 : b = e <;> by_cases h3 : c = f <;> simp [hn, h1, h2, h3]
theorem Fg.cells {w : World} {u : Value} {ws : List Fl} (hu : Fg w u ws) : ∃ a c, u = .slice a ws.length c ∧ ∀ i x, ws[i]? = some x → ∃ g o, a = some ⟨g, o, none⟩ ∧ w.cell? ⟨g, o + i * 3, none⟩ = some (.int .u8 x.letter.toNat) ∧ w.cell? ⟨g, o + i * 3 + 1, none⟩ = some (sv x.arg) ∧ w.cell? ⟨g, o + i * 3 + 2, none⟩ = some (.bool x.has) := by
  rcases hu with ⟨rfl, a, c, rfl⟩ | ⟨g, o, c, rfl, h⟩
  · exact ⟨a, c, rfl, fun i x hx => by simp at hx⟩
  · exact ⟨_, c, rfl, fun i x hx => ⟨g, o, rfl, h i x hx⟩⟩
set_option maxRecDepth 100000 in
set_option maxHeartbeats 4000000 in
theorem eqF_129 {w : World} {u v : Value} {ws vs : List Fl} (hu : Fg w u ws) (hv : Fg w v vs) (hn : ws.length ≤ 1000000000) (hm : vs.length ≤ 1000000000) :
    Calls Tryz.prog 134 #[u, v] w fun e w' => ∃ b : Bool, (b = true ↔ ws = vs) ∧ e = .returned (.bool b) ∧ w.grownBy w' none := by
  obtain ⟨ua, uc, rfl, hcu⟩ := hu.cells
  obtain ⟨va, vc, rfl, hcv⟩ := hv.cells
  clear hu hv
  by_cases hl : ws.length = vs.length
  · obtain ⟨n, hnn⟩ : ∃ n, ws.length = n := ⟨_, rfl⟩
    have hnv : vs.length = n := hl.symm.trans hnn
    rw [hnn, hnv]
    have HC := Lib.hid hcu
    have HD := Lib.hid hcv
    have HN := Lib.hid hnn
    have HV := Lib.hid hnv
    clear hl hcu hcv
    rw [hnn] at hn
    clear hm hnn hnv
    go_enter Tryz.func134, Tryz.ntmps134
    go_wp2
    go_loopw [13] (fun x wr => ∃ k : Nat, k ≤ n ∧ x = .int .i64 k ∧ w.grownBy wr none ∧ ws.take k = vs.take k) (fun x _ => n - (intOf x).toNat)
    case atStart => exact ⟨0, by omega, rfl, gb_refl _ _, rfl⟩
    case round =>
      obtain ⟨k, hk, rfl, hg, ht⟩ := hrel
      have HT := Lib.hid ht
      clear ht
      rcases (by omega : k < n ∨ k = n) with hlt | rfl
      · obtain ⟨x, hx⟩ : ∃ x, ws[k]? = some x := ⟨_, List.getElem?_eq_getElem (by rw [HN.out]; exact hlt)⟩
        obtain ⟨y, hy⟩ : ∃ x, vs[k]? = some x := ⟨_, List.getElem?_eq_getElem (by rw [HV.out]; exact hlt)⟩
        obtain ⟨g1, o1, rfl, c1, c2, c3⟩ := HC.out k x hx
        obtain ⟨g2, o2, rfl, e1, e2, e3⟩ := HD.out k y hy
        replace c1 := gb_cellN hg c1
        replace c2 := gb_cellN hg c2
        replace c3 := gb_cellN hg c3
        replace e1 := gb_cellN hg e1
        replace e2 := gb_cellN hg e2
        replace e3 := gb_cellN hg e3
        have d1 : ((k : Int) < (n : Int)) := by omega
        have HX := Lib.hid hx
        have HY := Lib.hid hy
        clear hx hy
        by_cases hxy : x = y
        · subst hxy
          have hnq := neq79 x x
          rw [(flE_iff x x).2 rfl] at hnq
          have hm79 : Tryz.prog.eqGuardType Tryz.prog.depth 79 = false := by kernel_rfl
          go_wp2
          go_quiet (fail)
          go_wp2
          refine ⟨⟨k + 1, by omega, by simp, gb_drewN hg _, take_more HX.out HY.out HT.out⟩, by simp [intOf]; omega⟩
        · have hne : ws ≠ vs := take_ne HX.out HY.out hxy
          have hnq := neq79 x y
          have hfe : flE x y = false := by
            cases h : flE x y with
            | false => rfl
            | true => exact absurd ((flE_iff x y).1 h) hxy
          rw [hfe] at hnq
          have hm79 : Tryz.prog.eqGuardType Tryz.prog.depth 79 = false := by kernel_rfl
          go_wp2
          go_quiet (fail)
          go_wp2
          go_ret
          exact ⟨false, ⟨fun h => (Bool.noConfusion h), fun h => absurd h hne⟩, rfl, gb_drewN hg _⟩
      · have d1 : decide ((k : Int) < (k : Int)) = false := decide_eq_false (by omega)
        have heq : ws = vs := by
          have h := HT.out
          have h1 := List.take_length (l := ws)
          have h2 := List.take_length (l := vs)
          rw [HN.out] at h1
          rw [HV.out] at h2
          rw [← h1, ← h2, h]
        go_wp2
        go_ret
        exact ⟨true, ⟨fun _ => heq, fun _ => rfl⟩, rfl, hg⟩
  · have hne : ws ≠ vs := fun e => hl (by rw [e])
    have d0 : ((ws.length : Int) != (vs.length : Int)) = true := by simpa using fun e => hl (by omega)
    go_enter Tryz.func134, Tryz.ntmps134
    go_wp2
    all_goals first
      | omega
      | (go_ret; exact ⟨false, ⟨fun h => (Bool.noConfusion h), fun h => absurd h hne⟩, rfl, gb_refl _ _⟩)
end Go.Proofs.YtbbocbdoiealoaaGreatDoor
