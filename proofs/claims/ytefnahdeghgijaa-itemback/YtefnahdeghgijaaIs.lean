import Derived.Test.YtefnahdeghgijaaIr
import Derived.Deep.Cut
/-
  laidOut.
-/
namespace Go.Proofs.Ytefnahdeghgijaa
open Go.RowKit
set_option linter.unusedVariables false

theorem lies_self (bs : List Int) : Lies bs 0 bs := ⟨by simp [cut], by simp⟩
theorem getL_one (bs : List Int) (x : Nat) : getL bs x 1 0 0 = bs.getD x 0 := by simp [getL]

/-- Where laidOut stands. -/
structure LO (w : World) (ib bb nb : Nat) (bs : List Int) (ka : Option Addr) (kn : Nat) (key : List Int) (va : Option Addr) (vn : Nat) (val : List Int) (ic : Array Value) (W : World) : Prop where
  gr : w.grownBy W none
  bi : Box W 41 ib ic
  hb : Has W (some ⟨bb, 0, none⟩) nb bs
  hk : Has W ka kn key
  hv : Has W va vn val
theorem LO.step {w : World} {ib bb nb : Nat} {bs : List Int} {ka : Option Addr} {kn : Nat} {key : List Int} {va : Option Addr} {vn : Nat} {val : List Int} {ic : Array Value} {W W' : World} (h : LO w ib bb nb bs ka kn key va vn val ic W) (hf : W.grownBy W' none) : LO w ib bb nb bs ka kn key va vn val ic W' :=
  ⟨gb_trans h.gr hf, h.bi.kept hf (by simp), h.hb.kept0 hf, h.hk.kept0 hf, h.hv.kept0 hf⟩
theorem LO.ic {w : World} {ib bb nb : Nat} {bs : List Int} {ka : Option Addr} {kn : Nat} {key : List Int} {va : Option Addr} {vn : Nat} {val : List Int} {x0 x1 x2 x3 x4 x5 x6 x7 : Value} {W : World} (h : LO w ib bb nb bs ka kn key va vn val #[x0, x1, x2, x3, x4, x5, x6, x7] W) : W.cell? ⟨ib, 0, none⟩ = some x0 ∧ W.cell? ⟨ib, 1, none⟩ = some x1 ∧ W.cell? ⟨ib, 2, none⟩ = some x2 ∧ W.cell? ⟨ib, 3, none⟩ = some x3 ∧ W.cell? ⟨ib, 4, none⟩ = some x4 ∧ W.cell? ⟨ib, 5, none⟩ = some x5 ∧ W.cell? ⟨ib, 6, none⟩ = some x6 ∧ W.cell? ⟨ib, 7, none⟩ = some x7 :=
  ⟨h.bi.cell 0, h.bi.cell 1, h.bi.cell 2, h.bi.cell 3, h.bi.cell 4, h.bi.cell 5, h.bi.cell 6, h.bi.cell 7⟩
theorem LO.by {w : World} {ib bb nb : Nat} {bs : List Int} {ka : Option Addr} {kn : Nat} {key : List Int} {va : Option Addr} {vn : Nat} {val : List Int} {ic : Array Value} {W : World} (h : LO w ib bb nb bs ka kn key va vn val ic W) (i : Nat) (hi : i < nb) (z : Int) (hz : bs.getD i 0 = z) : W.cell? ⟨bb, i, none⟩ = some (.int .u8 z) := by
  obtain ⟨b', o', e1, e2⟩ := h.hb.2 (by omega)
  cases e1
  have := e2 i hi
  rw [Nat.zero_add, hz] at this
  exact this

/-- What an item without links says of its own bytes. -/
structure Says (bs : List Int) (t : It) : Prop where
  z8 : getL bs 0 8 0 0 = 0
  z4 : getL bs 8 4 0 0 = 0
  gn : getL bs 12 4 0 0 = t.gn
  ex : getL bs 16 8 0 0 = t.ex
  to : getL bs 24 8 0 0 = t.to
  tk : getL bs 32 8 0 0 = t.tk
  fl : getL bs 40 4 0 0 = t.fl
  zz : getL bs 52 4 0 0 = 0
  kl : bs.getD 44 0 = t.key.length
  st : bs.getD 45 0 = t.st
  ms : bs.getD 46 0 = t.ms
  cl : bs.getD 47 0 = t.cl
  vl : getL bs 48 4 0 0 = t.val.length
  ky : cut bs 56 t.key.length = t.key
  vy : cut bs (56 + t.key.length) t.val.length = t.val
  e1 : bs.getD (56 + t.key.length + t.val.length) 0 = 13
  e2 : bs.getD (57 + t.key.length + t.val.length) 0 = 10
  ln : bs.length = 58 + t.key.length + t.val.length
set_option maxHeartbeats 4000000 in
theorem says_of (t : It) (h0 : t.l0 = 0) (h1 : t.l1 = 0) (h2 : t.l2 = 0) (hI : IsI t.L.flatten 0 t) : Says t.L.flatten t := by
  have hl := It.len t
  have hz : ∀ (i x : Nat) (z : Int), t.L[i]? = some (be 4 z) → ((ns t.key.length t.val.length).take i).sum = x → 0 ≤ z → z < 4294967296 → getL t.L.flatten x 4 0 0 = z := by
    intro i x z h1 h2 h3 h4
    have := lies_get (lies_self t.L.flatten) i x 4 z h1 (by rw [It.lens]; exact h2) h3 (by rw [pw4]; exact h4)
    rwa [Nat.zero_add] at this
  have ex := hI.expiry
  have to := hI.touched
  have tk := hI.token
  have fl := hI.flags
  have kl := hI.kl
  have vl := hI.vl
  have st := hI.state
  have ms := hI.marks
  have ky := hI.key
  have vy := hI.value
  have cl : getL t.L.flatten (0 + 47) 1 0 0 = t.cl := lies_get hI.lies 11 47 1 _ rfl (by rw [It.lens]; rfl) hI.cl.1 (by rw [pw1]; exact hI.cl.2)
  simp only [Nat.zero_add] at ex to tk fl kl vl st ms ky vy cl
  rw [getL_one] at kl st ms cl
  have he : cut t.L.flatten (56 + t.key.length + t.val.length) 2 = [13, 10] := by
    have hc := cut_seg t.L 16 (be 2 3338) rfl
    rw [It.lens, be_len] at hc
    have e : ((ns t.key.length t.val.length).take 16).sum = 56 + t.key.length + t.val.length := by simp [ns]; omega
    rw [e] at hc
    rw [hc]
    decide
  have g1 := getD_cut (zs := t.L.flatten) (x := 56 + t.key.length + t.val.length) (n := 2) (i := 0) (by omega)
  have g2 := getD_cut (zs := t.L.flatten) (x := 56 + t.key.length + t.val.length) (n := 2) (i := 1) (by omega)
  rw [he] at g1 g2
  rw [Nat.add_zero] at g1
  refine ⟨?_, hz 2 8 0 (by rw [← h2]; rfl) rfl (by omega) (by omega), hz 3 12 t.gn rfl rfl hI.gn.1 hI.gn.2, ex, to, tk, fl, hz 13 52 0 rfl rfl (by omega) (by omega), kl, st, ms, cl, vl, ky, vy, ?_, ?_, hl⟩
  · rw [getL_cut _ _ _ (by omega)]
    have e : cut t.L.flatten 0 8 = be 4 0 ++ be 4 0 := by
      have e2 : t.L.flatten = [] ++ ((be 4 0 ++ be 4 0) ++ (t.L.drop 2).flatten) := by
        simp [It.L, h0, h1]
      rw [e2]
      exact cut_app _ _ _ _ _ rfl (by simp [be_len])
    rw [e]
    decide
  · rw [← g1]; rfl
  · rw [show 57 + t.key.length + t.val.length = 56 + t.key.length + t.val.length + 1 by omega, ← g2]; rfl

set_option maxRecDepth 100000 in
set_option maxHeartbeats 4000000 in
theorem laidOut_58 {w : World} (bb cb : Nat) (bs : List Int) (ka va : Option Addr) (kn kc vn vc : Nat) (t : It) (hS : Says bs t) (hb : Has w (some ⟨bb, 0, none⟩) (58 + kn + vn) bs) (hbs : isBytes bs) (hk : Has w ka kn t.key) (hv : Has w va vn t.val) (hkb : isBytes t.key) (hvb : isBytes t.val) (hkn : kn ≤ 250) (hvn : vn ≤ 1048576)
    (b1 : 0 ≤ t.ex ∧ t.ex < 9223372036854775808) (b2 : 0 ≤ t.to ∧ t.to < 9223372036854775808) (b3 : 0 ≤ t.cl ∧ t.cl < 256) (b4 : 0 ≤ t.st ∧ t.st < 256) (b5 : 0 ≤ t.ms ∧ t.ms < 256) (hcb : 58 + kn + vn ≤ cb) :
    Calls Try.prog 19 #[.slice (some ⟨bb, 0, none⟩) (58 + kn + vn) cb, itV ka kn kc va vn vc t.fl t.ex t.to t.tk t.st t.ms, .int .i64 t.cl, .int .u64 t.gn] w fun y w' => y = .returned (.bool true) ∧ w.grownBy w' none := by
  have hkl : t.key.length = kn := hk.1
  have hvl : t.val.length = vn := hv.1
  have hW0 : LO w w.heap.size bb (58 + kn + vn) bs ka kn t.key va vn t.val #[.slice ka kn kc, .slice va vn vc, .int .u64 t.fl, .int .i64 t.ex, .int .i64 t.to, .int .u64 t.tk, .int .i64 t.st, .int .i64 t.ms] (w.alloc (.cells #[.slice ka kn kc, .slice va vn vc, .int .u64 t.fl, .int .i64 t.ex, .int .i64 t.to, .int .u64 t.tk, .int .i64 t.st, .int .i64 t.ms] 41)) :=
    ⟨World.grownBy_alloc _ _ _, Box.new _ _ _, hb.kept0 (World.grownBy_alloc _ _ none), hk.kept0 (World.grownBy_alloc _ _ none), hv.kept0 (World.grownBy_alloc _ _ none)⟩
  have hbig := fun (W : World) (hW : LO w w.heap.size bb (58 + kn + vn) bs ka kn t.key va vn t.val #[.slice ka kn kc, .slice va vn vc, .int .u64 t.fl, .int .i64 t.ex, .int .i64 t.to, .int .u64 t.tk, .int .i64 t.st, .int .i64 t.ms] W) (x n : Nat) (hx : x + n ≤ 56) (hn : n ≤ 8) => big_108 (cb := cb) hW.hb hbs x n (by omega) hn (by omega)
  have q0 := fun W hW => hbig W hW 0 8 (by omega) (by omega)
  have q1 := fun W hW => hbig W hW 8 4 (by omega) (by omega)
  have q2 := fun W hW => hbig W hW 12 4 (by omega) (by omega)
  have q3 := fun W hW => hbig W hW 52 4 (by omega) (by omega)
  have q4 := fun W hW => hbig W hW 16 8 (by omega) (by omega)
  have q5 := fun W hW => hbig W hW 24 8 (by omega) (by omega)
  have q6 := fun W hW => hbig W hW 32 8 (by omega) (by omega)
  have q7 := fun W hW => hbig W hW 40 4 (by omega) (by omega)
  have q8 := fun W hW => hbig W hW 48 4 (by omega) (by omega)
  simp only [hS.z8, show ((0 : Nat) : Int) = 0 from rfl, show ((8 : Nat) : Int) = 8 from rfl] at q0
  simp only [hS.z4, show ((8 : Nat) : Int) = 8 from rfl, show ((4 : Nat) : Int) = 4 from rfl] at q1
  simp only [hS.gn, show ((12 : Nat) : Int) = 12 from rfl, show ((4 : Nat) : Int) = 4 from rfl] at q2
  simp only [hS.zz, show ((52 : Nat) : Int) = 52 from rfl, show ((4 : Nat) : Int) = 4 from rfl] at q3
  simp only [hS.ex, show ((16 : Nat) : Int) = 16 from rfl, show ((8 : Nat) : Int) = 8 from rfl] at q4
  simp only [hS.to, show ((24 : Nat) : Int) = 24 from rfl, show ((8 : Nat) : Int) = 8 from rfl] at q5
  simp only [hS.tk, show ((32 : Nat) : Int) = 32 from rfl, show ((8 : Nat) : Int) = 8 from rfl] at q6
  simp only [hS.fl, show ((40 : Nat) : Int) = 40 from rfl, show ((4 : Nat) : Int) = 4 from rfl] at q7
  simp only [hS.vl, hvl, show ((48 : Nat) : Int) = 48 from rfl, show ((4 : Nat) : Int) = 4 from rfl] at q8
  have c44 := fun W (hW : LO w w.heap.size bb (58 + kn + vn) bs ka kn t.key va vn t.val #[.slice ka kn kc, .slice va vn vc, .int .u64 t.fl, .int .i64 t.ex, .int .i64 t.to, .int .u64 t.tk, .int .i64 t.st, .int .i64 t.ms] W) => hW.by 44 (by omega) kn (by rw [hS.kl, hkl])
  have c45 := fun W (hW : LO w w.heap.size bb (58 + kn + vn) bs ka kn t.key va vn t.val #[.slice ka kn kc, .slice va vn vc, .int .u64 t.fl, .int .i64 t.ex, .int .i64 t.to, .int .u64 t.tk, .int .i64 t.st, .int .i64 t.ms] W) => hW.by 45 (by omega) t.st hS.st
  have c46 := fun W (hW : LO w w.heap.size bb (58 + kn + vn) bs ka kn t.key va vn t.val #[.slice ka kn kc, .slice va vn vc, .int .u64 t.fl, .int .i64 t.ex, .int .i64 t.to, .int .u64 t.tk, .int .i64 t.st, .int .i64 t.ms] W) => hW.by 46 (by omega) t.ms hS.ms
  have c47 := fun W (hW : LO w w.heap.size bb (58 + kn + vn) bs ka kn t.key va vn t.val #[.slice ka kn kc, .slice va vn vc, .int .u64 t.fl, .int .i64 t.ex, .int .i64 t.to, .int .u64 t.tk, .int .i64 t.st, .int .i64 t.ms] W) => hW.by 47 (by omega) t.cl hS.cl
  have ce1 := fun W (hW : LO w w.heap.size bb (58 + kn + vn) bs ka kn t.key va vn t.val #[.slice ka kn kc, .slice va vn vc, .int .u64 t.fl, .int .i64 t.ex, .int .i64 t.to, .int .u64 t.tk, .int .i64 t.st, .int .i64 t.ms] W) => hW.by (56 + kn + vn) (by omega) 13 (by have := hS.e1; rwa [hkl, hvl] at this)
  have ce2 := fun W (hW : LO w w.heap.size bb (58 + kn + vn) bs ka kn t.key va vn t.val #[.slice ka kn kc, .slice va vn vc, .int .u64 t.fl, .int .i64 t.ex, .int .i64 t.to, .int .u64 t.tk, .int .i64 t.st, .int .i64 t.ms] W) => hW.by (57 + kn + vn) (by omega) 10 (by have := hS.e2; rwa [hkl, hvl] at this)
  have heq1 := fun W (hW : LO w w.heap.size bb (58 + kn + vn) bs ka kn t.key va vn t.val #[.slice ka kn kc, .slice va vn vc, .int .u64 t.fl, .int .i64 t.ex, .int .i64 t.to, .int .u64 t.tk, .int .i64 t.st, .int .i64 t.ms] W) => equal_67 (hW.hb.piece 56 kn 56 (by omega) (fun _ => rfl)) hW.hk (by rw [← hkl, hS.ky]; exact hkb) hkb (cb - 56) kc
  have heq2 := fun W (hW : LO w w.heap.size bb (58 + kn + vn) bs ka kn t.key va vn t.val #[.slice ka kn kc, .slice va vn vc, .int .u64 t.fl, .int .i64 t.ex, .int .i64 t.to, .int .u64 t.tk, .int .i64 t.st, .int .i64 t.ms] W) => equal_67 (hW.hb.piece (56 + kn) vn (56 + kn) (by omega) (fun _ => rfl)) hW.hv (by rw [← hkl, ← hvl, hS.vy]; exact hvb) hvb (cb - (56 + kn)) vc
  rw [show cut bs 56 kn = t.key by rw [← hkl]; exact hS.ky, decide_eq_true rfl] at heq1
  rw [show cut bs (56 + kn) vn = t.val by rw [← hkl, ← hvl]; exact hS.vy, decide_eq_true rfl] at heq2
  clear hbig hb hk hv hS hbs
  unfold itV
  obtain ⟨l0, l1, l2, gn, ex, to, tk, fl, st, ms, cl, key, val⟩ := t
  simp only at *
  clear hkl hvl
  have hwe : IntKind.u64.wrap ex = ex := by rw [IntKind.wrap_u64]; omega
  have hwt : IntKind.u64.wrap to = to := by rw [IntKind.wrap_u64]; omega
  have hwv : IntKind.u64.wrap (vn : Int) = vn := by rw [IntKind.wrap_u64]; omega
  have hws : IntKind.i64.wrap st = st := by rw [IntKind.wrap_i64]; omega
  have hwm : IntKind.i64.wrap ms = ms := by rw [IntKind.wrap_i64]; omega
  have hwc : IntKind.i64.wrap cl = cl := by rw [IntKind.wrap_i64]; omega
  have hwk : IntKind.i64.wrap (kn : Int) = kn := by rw [IntKind.wrap_i64]; omega
  have hp1 : IntKind.i64.wrap (58 + (kn : Int)) = 58 + (kn : Int) := by rw [IntKind.wrap_i64]; omega
  have hp2 : IntKind.i64.wrap (58 + (kn : Int) + vn) = 58 + (kn : Int) + vn := by rw [IntKind.wrap_i64]; omega
  have hp3 : IntKind.i64.wrap (56 + (kn : Int)) = 56 + (kn : Int) := by rw [IntKind.wrap_i64]; omega
  have hp4 : IntKind.i64.wrap (56 + (kn : Int) + vn) = 56 + (kn : Int) + vn := by rw [IntKind.wrap_i64]; omega
  have hp5 : IntKind.i64.wrap (58 + (kn : Int) + vn - 2) = 56 + (kn : Int) + vn := by rw [IntKind.wrap_i64]; omega
  have hp6 : IntKind.i64.wrap (58 + (kn : Int) + vn - 1) = 57 + (kn : Int) + vn := by rw [IntKind.wrap_i64]; omega
  have hcs : ((58 + kn + vn : Nat) : Int) = 58 + (kn : Int) + vn := by omega
  go_enter Try.func19, Try.ntmps19
  go_upto_region 1 with fail
  generalize w.alloc (.cells #[.slice ka kn kc, .slice va vn vc, .int .u64 fl, .int .i64 ex, .int .i64 to, .int .u64 tk, .int .i64 st, .int .i64 ms] 41) = W0 at *
  obtain ⟨i0, i1, i2, i3, i4, i5, i6, i7⟩ := hW0.ic
  go_wp2_with (first | (go_at_call 57; with_reducible refine (q0 _ hW0).mono ?_; rintro y w' ⟨rfl, hw⟩; (replace hw := hw.symm); subst hw) | (go_at_call 57; with_reducible refine (q1 _ hW0).mono ?_; rintro y w' ⟨rfl, hw⟩; (replace hw := hw.symm); subst hw) | (go_at_call 57; with_reducible refine (q2 _ hW0).mono ?_; rintro y w' ⟨rfl, hw⟩; (replace hw := hw.symm); subst hw) | (go_at_call 57; with_reducible refine (q3 _ hW0).mono ?_; rintro y w' ⟨rfl, hw⟩; (replace hw := hw.symm); subst hw) | fail)
  have p4 := fun q => q4 _ (hW0.step (gb_drewN (gb_refl _ none) q))
  have p5 := fun q => q5 _ (hW0.step (gb_drewN (gb_refl _ none) q))
  have p6 := fun q => q6 _ (hW0.step (gb_drewN (gb_refl _ none) q))
  have p7 := fun q => q7 _ (hW0.step (gb_drewN (gb_refl _ none) q))
  go_quiet ((first | (go_at_call 57; with_reducible exact Calls.quiet_of_same (p4 _)) | (go_at_call 57; with_reducible exact Calls.quiet_of_same (p5 _)) | (go_at_call 57; with_reducible exact Calls.quiet_of_same (p6 _)) | (go_at_call 57; with_reducible exact Calls.quiet_of_same (p7 _))))
  have hW1 := hW0.step (gb_drewN (gb_refl _ none) nq)
  clear i0 i1 i2 i3 i4 i5 i6 i7 p4 p5 p6 p7
  generalize W0.drewN nq = W1 at *
  obtain ⟨i0, i1, i2, i3, i4, i5, i6, i7⟩ := hW1.ic
  have j44 := c44 _ hW1
  have j45 := c45 _ hW1
  have j46 := c46 _ hW1
  have j47 := c47 _ hW1
  have p8 := fun q => q8 _ (hW1.step (gb_drewN (gb_refl _ none) q))
  go_wp2
  go_quiet ((go_at_call 57; with_reducible exact Calls.quiet_of_same (p8 _)))
  have hW2 := hW1.step (gb_drewN (gb_refl _ none) nq)
  clear i0 i1 i2 i3 i4 i5 i6 i7 p8 j44 j45 j46 j47
  generalize W1.drewN nq = W2 at *
  obtain ⟨i0, i1, i2, i3, i4, i5, i6, i7⟩ := hW2.ic
  have j1 := ce1 _ hW2
  have j2 := ce2 _ hW2
  have s1 := fun q => heq1 _ (hW2.step (gb_drewN (gb_refl _ none) q))
  have s2 := fun q => heq2 _ (hW2.step (gb_drewN (gb_refl _ none) q))
  have t1 : (56 + (kn : Int) + vn).toNat = 56 + kn + vn := by omega
  have t2 : (57 + (kn : Int) + vn).toNat = 57 + kn + vn := by omega
  have t3 : (56 + (kn : Int)).toNat = 56 + kn := by omega
  have t4 : 56 + kn - 56 = kn := by omega
  have t5 : 56 + kn + vn - (56 + kn) = vn := by omega
  have t6 : (0 : Int) ≤ 56 + (kn : Int) := by omega
  have t7 : 56 + (kn : Int) ≤ cb := by omega
  have t8 : 56 + (kn : Int) + vn ≤ cb := by omega
  have t9 : (56 : Int) ≤ 56 + (kn : Int) := by omega
  have t10 : 56 + (kn : Int) ≤ 56 + (kn : Int) + vn := by omega
  have t11 : ¬ cb = 56 := by omega
  have t12 : ¬ cb = 56 + kn := by omega
  replace s1 := fun q => (s1 q).mono (R' := fun e w' => e = .returned (.bool true) ∧ w' = W2.drewN q) (by rintro e w' ⟨h1, h2⟩; exact ⟨h1, h2.symm⟩)
  replace s2 := fun q => (s2 q).mono (R' := fun e w' => e = .returned (.bool true) ∧ w' = W2.drewN q) (by rintro e w' ⟨h1, h2⟩; exact ⟨h1, h2.symm⟩)
  go_wp2
  go_quiet ((first | (go_at_call 16; with_reducible exact Calls.quiet_of_same (s1 _)) | (go_at_call 16; with_reducible exact Calls.quiet_of_same (s2 _))))
  go_wp2
  go_ret
  exact ⟨rfl, gb_drewN hW2.gr nq⟩

end Go.Proofs.Ytefnahdeghgijaa
