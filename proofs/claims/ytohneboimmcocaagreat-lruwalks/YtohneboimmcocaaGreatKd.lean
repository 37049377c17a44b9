import Derived.Test.YtohneboimmcocaaGreatKc
import Derived.Test.YtohneboimmcocaaGreatOk
import Derived.Test.YtohneboimmcocaaGreatGa
/-
  LruWalks: the program's side, as its walk needs it.
-/
namespace Go.Proofs.YtohneboimmcocaaGreat
open Go.RowKit Go.Shelf
set_option linter.unusedVariables false

/-- What is said of the program's side L: G0 its blocks that calls turn, all of them below w3's end. -/
structure WI (w3 : World) (wb xb : Nat) (T : List Nat) (G0 : Nat → Prop) (L : World → Lm → Prop) : Prop where
  lt : ∀ k, G0 k → k < w3.heap.size
  own : ∀ W W' row S, L W S → W.grownBy W' row → (∀ r, row = some r → w3.heap.size ≤ r) → L W' S
  cell : ∀ W S, L W S → W.cell? ⟨wb, 2, none⟩ = some (.pointer (some ⟨xb, 0, none⟩))
  bel : ∀ W S, L W S → Kp G0 w3 W
  row : ∀ W S (ci : Nat), L W S → ci < 3 → (rowN S.X ci).length ≤ 5000 ∧ Calls Tryz.prog 30 #[.pointer (some ⟨wb, 0, none⟩), .int .i64 ci] W fun y w' => ∃ v, y = .returned v ∧ W.grownBy w' none ∧ w'.ownsRow W.heap.size 48 1 v (rowN S.X ci).length (uvs (rowN S.X ci))
  walk : ∀ W S (ci Bl Bc : Nat) (G : Nat → Prop) (n : Nat), L W S → ci < 3 → 1 ≤ n → Bl < W.heap.size → Bc < W.heap.size → W.cell? ⟨Bl, 0, none⟩ = some (.pointer (some ⟨xb, 0, none⟩)) → W.cell? ⟨Bc, 0, none⟩ = some (.int .i64 ci) → (∀ k, G k → k < W.heap.size) → SeqStopsK Fence.wide n Tryz.prog 71 #[.pointer (some ⟨Bl, 0, none⟩), .pointer (some ⟨Bc, 0, none⟩)] (fun x : { H : Nat // H ∈ T } => #[Value.int .u64 (x.1 : Nat)]) (KW G) (fun ys => ys.map Subtype.val = rowN S.X ci) (fun pre => pre.map Subtype.val <+: rowN S.X ci) (rowN S.X ci).length W
  leave : ∀ W S (H : Nat), L W S → H ∈ T → Calls Tryz.prog 31 #[.pointer (some ⟨xb, 0, none⟩), .int .u64 H] W fun y w' => ∃ r : Int, y = .returned (.int .i64 r) ∧ Hid (Kp G0 W w' ∧ ∃ S', L w' S')
  enter : ∀ W S (H : Nat), L W S → H ∈ T → Calls Tryz.prog 32 #[.pointer (some ⟨xb, 0, none⟩), .int .u64 H] W fun y w' => ∃ r : Int, y = .returned (.int .i64 r) ∧ Hid (Kp G0 W w' ∧ ∃ S', L w' S')
  hit : ∀ W S (H : Nat), L W S → H ∈ T → Calls Tryz.prog 33 #[.pointer (some ⟨xb, 0, none⟩), .int .u64 H] W fun y w' => ∃ r : Int, y = .returned (.int .i64 r) ∧ Hid (Kp G0 W w' ∧ ∃ S', L w' S')
  bal : ∀ W S (ci : Nat), L W S → ci < 3 → Calls Tryz.prog 18 #[.pointer (some ⟨xb, 0, none⟩), .int .i64 ci, .int .i64 2, Value.nilFunc] W fun y w' => ∃ r : Int, y = .returned (.int .i64 r) ∧ Hid (Kp G0 W w' ∧ ∃ S', L w' S')
theorem gs_wi {w3 : World} {P : Nat → Prop} {wb N hot warm : Nat} {E : Wd} (hG : GS w3 P wb N hot warm E) (hsh : hot ≤ 100) (hsw : warm ≤ 100) : ∃ (xb : Nat) (T : List Nat) (G0 : Nat → Prop) (L : World → Lm → Prop) (S : Lm), WI w3 wb xb T G0 L ∧ L w3 S ∧ ∀ k, G0 k → P k := by
  obtain ⟨D, lsb, vs, Y, S, cl, hs, hW⟩ := hG
  obtain ⟨bs, p, n, s, hX⟩ := hW.gx
  have hN := hW.nN
  have hT : D.xl.length ≤ 300 := by omega
  have hLQ := hX.lq hW.ms hT
  have hLB := hLQ.lb
  have hc3 : ∀ ci, ci < 3 → ci < D.A.n := fun ci h => by rw [hX.n3]; exact h
  have hlow : ∀ {W W' : World} {S : Lm}, LE W D.xb D.sb D.qb D.gl D.gc D.F D.B 4 200 64 256 0 0 D.A D.zs D.xl cl S hot warm → Below w3.heap.size W W' → LE W' D.xb D.sb D.qb D.gl D.gc D.F D.B 4 200 64 256 0 0 D.A D.zs D.xl cl S hot warm := fun h hb => by
    obtain ⟨bs', hL⟩ := h.ex
    exact ⟨bs', (LB.below ⟨hL, hLB.f, hLB.x, hLB.q, hLB.g⟩ hb).lq⟩
  have aft : ∀ {W w' : World}, Kp (fun k => D.F k ∨ k = D.gl) w3 W → LAft W D.xb D.sb D.qb D.gl D.gc D.F D.B 4 200 64 256 0 0 D.A D.zs D.xl cl hot warm w' → Hid (Kp (fun k => D.F k ∨ k = D.gl) W w' ∧ ∃ S', LE w' D.xb D.sb D.qb D.gl D.gc D.F D.B 4 200 64 256 0 0 D.A D.zs D.xl cl S' hot warm ∧ Kp (fun k => D.F k ∨ k = D.gl) w3 w') := fun hK h => by
    obtain ⟨h1, S', h2⟩ := h
    exact ⟨h1, S', h2, hK.trans h1 (fun _ h => h) (fun k hk => .inl hk)⟩
  refine ⟨D.xb, D.xl, fun k => D.F k ∨ k = D.gl, fun W S => LE W D.xb D.sb D.qb D.gl D.gc D.F D.B 4 200 64 256 0 0 D.A D.zs D.xl cl S hot warm ∧ Kp (fun k => D.F k ∨ k = D.gl) w3 W, S, ⟨?_, ?_, ?_, ?_, ?_, ?_, ?_, ?_, ?_, ?_⟩, ⟨⟨bs, hLQ⟩, Kp.refl _ _⟩, ?_⟩
  · rintro k (h | rfl)
    · exact hLB.f k h
    · exact hLB.g
  · rintro W W' row S ⟨h1, h2⟩ hg hr
    have hsz := h2.size
    refine ⟨hlow h1 ⟨hg.os, hg.tape, hg.output, hg.size, fun k hk => hg.block k (by omega) (fun e => ?_)⟩, h2.step hg (fun i hi => .inr (hr i hi))⟩
    have := hr k e.symm
    omega
  · rintro W S ⟨h1, h2⟩
    obtain ⟨bs', hL⟩ := h1.ex
    obtain ⟨zs', L', bs2, p', n', s', m1, m2, m3, m4⟩ := Hlf.of hW hX hL h2
    exact m1.cells.2.2.1
  · rintro W S ⟨h1, h2⟩
    exact h2
  · rintro W S ci ⟨h1, h2⟩ hc
    obtain ⟨bs', hL⟩ := h1.ex
    obtain ⟨zs', L', bs2, p', n', s', m1, m2, m3, m4⟩ := Hlf.of hW hX hL h2
    refine ⟨?_, row_30 (⟨{ D with zs := zs', L := L' }, lsb, vs, Y, cl, bs2, p', n', s', ⟨rfl, rfl, rfl, rfl, rfl, rfl⟩, m1, m2, hT⟩ : HS W P wb hot warm D S) hc⟩
    have q0 := h1.len hT ci 0
    have q1 := h1.len hT ci 1
    have q2 := h1.len hT ci 2
    simp only [rowN, List.length_append, List.length_reverse]
    omega
  · rintro W S ci Bl Bc G n ⟨h1, h2⟩ hc hn hBl hBc c1 c2 hG
    exact walk_stops h1 hT (hc3 ci hc) hBl hBc c1 c2 hG n hn
  · rintro W S H ⟨h1, h2⟩ hH
    refine (h1.leave hH).mono ?_
    rintro y w' ⟨r, rfl, ha⟩
    exact ⟨r, rfl, aft h2 ha⟩
  · rintro W S H ⟨h1, h2⟩ hH
    refine (h1.enter hT hH).mono ?_
    rintro y w' ⟨r, rfl, ha⟩
    exact ⟨r, rfl, aft h2 ha⟩
  · rintro W S H ⟨h1, h2⟩ hH
    refine (h1.hit hH).mono ?_
    rintro y w' ⟨r, rfl, ha⟩
    exact ⟨r, rfl, aft h2 ha⟩
  · rintro W S ci ⟨h1, h2⟩ hc
    refine (h1.balance hT hsh hsw (hc3 ci hc)).mono ?_
    rintro y w' ⟨r, rfl, ha⟩
    exact ⟨r, rfl, aft h2 ha⟩
  · rintro k (h | rfl)
    · exact (hW.ms.ms.sep.inP (j := 1) (k := k) h).1
    · exact (hW.ms.ms.sep.inP (j := 8) (k := D.gl) rfl).1
theorem eql_func (t : TypeId) {ps rs : Array TypeId} {v : Bool} (h : Tryz.prog.underlying t = some (.func ps rs v)) (fn : Fn) (bs cs : Array Value) (w : World) : (binOp .eql t (.func fn bs cs) .nilFunc).run Tryz.prog w = .ok (.bool false) w := by
  simp only [binOp]
  simp [equal_func t h fn bs cs w]
end Go.Proofs.YtohneboimmcocaaGreat
