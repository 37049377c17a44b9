import Derived.Test.YtoomnhclaofgaaaGreatIt
import Derived.Deep.Cut
/-
  made.
-/
namespace Go.Proofs.YtoomnhclaofgaaaGreat
open Go.RowKit
set_option linter.unusedVariables false

theorem i64_and62 (n : Int) : bits .and .i64 n 4611686018427387903 = n % 4611686018427387904 := by
  have h127 : (BitVec.ofInt 64 4611686018427387903).toNat = 2 ^ 62 - 1 := by decide
  have key : (BitVec.ofInt 64 n &&& BitVec.ofInt 64 4611686018427387903).toNat = (n % ((2 ^ 64 : Nat) : Int)).toNat % 2 ^ 62 := by
    rw [BitVec.toNat_and, BitVec.toNat_ofInt, h127, Nat.and_two_pow_sub_one_eq_mod]
  show IntKind.i64.wrap ((BitVec.ofInt 64 n &&& BitVec.ofInt 64 4611686018427387903).toNat : Nat) = n % 4611686018427387904
  rw [key, IntKind.wrap_i64]
  omega

/-- A Laid, as a value. -/
def laidV (cf cs : Int) (ka : Option Addr) (kn kc : Nat) (va : Option Addr) (vn vc : Nat) (na : Option Addr) (nn nc : Nat) (fl tk ex to st mk : Int) : Value := .agg #[.int .i64 cf, .int .i64 cs, .slice ka kn kc, .slice va vn vc, .slice na nn nc, .int .u64 fl, .int .u64 tk, .int .i64 ex, .int .i64 to, .int .i64 st, .int .i64 mk]

/-- Where made stands. -/
structure MdS (w : World) (bc : Array Value) (W : World) : Prop where
  gr : w.grownBy W none
  bl : Box W 25 w.heap.size bc
  br : Box W 40 (w.heap.size + 1) #[.slice none 0 0, .slice none 0 0, .int .u64 0, .int .i64 0, .int .i64 0, .int .u64 0, .int .i64 0, .int .i64 0]
theorem MdS.step {w : World} {bc : Array Value} {W W' : World} (h : MdS w bc W) (hf : W.grownBy W' none) : MdS w bc W' := ⟨gb_trans h.gr hf, h.bl.kept hf (by simp), h.br.kept hf (by simp)⟩
theorem MdS.drew {w : World} {bc : Array Value} {W : World} (h : MdS w bc W) : MdS w bc W.drew := h.step (gb_drew (gb_refl _ _))
theorem MdS.cc {w : World} {y0 y1 y2 y3 y4 y5 y6 y7 y8 y9 y10 : Value} {W : World} (h : MdS w #[y0, y1, y2, y3, y4, y5, y6, y7, y8, y9, y10] W) : W.cell? ⟨w.heap.size, 2, none⟩ = some y2 ∧ W.cell? ⟨w.heap.size, 3, none⟩ = some y3 ∧ W.cell? ⟨w.heap.size, 5, none⟩ = some y5 ∧ W.cell? ⟨w.heap.size, 6, none⟩ = some y6 ∧ W.cell? ⟨w.heap.size, 7, none⟩ = some y7 ∧ W.cell? ⟨w.heap.size, 8, none⟩ = some y8 ∧ W.cell? ⟨w.heap.size, 9, none⟩ = some y9 ∧ W.cell? ⟨w.heap.size, 10, none⟩ = some y10 :=
  ⟨h.bl.cell 2, h.bl.cell 3, h.bl.cell 5, h.bl.cell 6, h.bl.cell 7, h.bl.cell 8, h.bl.cell 9, h.bl.cell 10⟩

set_option maxRecDepth 100000 in
set_option maxHeartbeats 8000000 in
theorem made_51 {w : World} (cf cs : Int) (ka : Option Addr) (kn kc : Nat) (va : Option Addr) (vn vc : Nat) (na : Option Addr) (nn nc : Nat) (fl tk ex to st mk : Int) (ys : List Int) (hy : Has w ka kn ys) (hyb : isBytes ys) (hn : kn ≤ 140737488351232) (hfl : 0 ≤ fl ∧ fl < 18446744073709551616) :
    Calls Tryz.prog 10 #[laidV cf cs ka kn kc va vn vc na nn nc fl tk ex to st mk] w fun y w' => ∃ ao cap, y = .returned (itV ao (keyOf ys).length cap va vn vc (fl % 4294967296) (ex % 4611686018427387904) (to % 4611686018427387904) tk (1 + st % 4) (mk % 16)) ∧ Own w.heap.size w' ao cap (keyOf ys) ∧ w.grownBy w' none := by
  have hF0 : w.grownBy ((w.alloc (.cells #[.int .i64 cf, .int .i64 cs, .slice ka kn kc, .slice va vn vc, .slice na nn nc, .int .u64 fl, .int .u64 tk, .int .i64 ex, .int .i64 to, .int .i64 st, .int .i64 mk] 25)).alloc (.cells #[.slice none 0 0, .slice none 0 0, .int .u64 0, .int .i64 0, .int .i64 0, .int .u64 0, .int .i64 0, .int .i64 0] 40)) none := gb_alloc (gb_alloc (gb_refl _ _) _) _
  have hM0 : MdS w #[.int .i64 cf, .int .i64 cs, .slice ka kn kc, .slice va vn vc, .slice na nn nc, .int .u64 fl, .int .u64 tk, .int .i64 ex, .int .i64 to, .int .i64 st, .int .i64 mk] ((w.alloc (.cells #[.int .i64 cf, .int .i64 cs, .slice ka kn kc, .slice va vn vc, .slice na nn nc, .int .u64 fl, .int .u64 tk, .int .i64 ex, .int .i64 to, .int .i64 st, .int .i64 mk] 25)).alloc (.cells #[.slice none 0 0, .slice none 0 0, .int .u64 0, .int .i64 0, .int .i64 0, .int .u64 0, .int .i64 0, .int .i64 0] 40)) := by
    refine ⟨hF0, (Box.new _ _ _).kept (World.grownBy_alloc _ _ none) (by simp), ?_⟩
    have h := Box.new (w.alloc (.cells #[.int .i64 cf, .int .i64 cs, .slice ka kn kc, .slice va vn vc, .slice na nn nc, .int .u64 fl, .int .u64 tk, .int .i64 ex, .int .i64 to, .int .i64 st, .int .i64 mk] 25)) 40 #[.slice none 0 0, .slice none 0 0, .int .u64 0, .int .i64 0, .int .i64 0, .int .u64 0, .int .i64 0, .int .i64 0]
    rw [show (w.alloc (.cells #[.int .i64 cf, .int .i64 cs, .slice ka kn kc, .slice va vn vc, .slice na nn nc, .int .u64 fl, .int .u64 tk, .int .i64 ex, .int .i64 to, .int .i64 st, .int .i64 mk] 25)).heap.size = w.heap.size + 1 by simp] at h
    exact h
  have hrt := fun W (hW : w.grownBy W none) => right_90 (hy.kept0 hW) hyb kc hn
  have hw4 := fun W => within_any st 4 (by omega) (by omega) W
  have hw16 := fun W => within_any mk 16 (by omega) (by omega) W
  have e1 := i64_and62 ex
  have e2 := i64_and62 to
  have m1 : 0 ≤ ex % 4611686018427387904 := by omega
  have m2 : 0 ≤ to % 4611686018427387904 := by omega
  have s4 : 0 ≤ st % 4 ∧ st % 4 < 4 := by omega
  have s16 : 0 ≤ mk % 16 ∧ mk % 16 < 16 := by omega
  have hrem : fl.tmod 4294967296 = fl % 4294967296 := Int.tmod_eq_emod_of_nonneg hfl.1
  have hfr : 0 ≤ fl % 4294967296 ∧ fl % 4294967296 < 4294967296 := by omega
  generalize ex % 4611686018427387904 = ex' at *
  generalize to % 4611686018427387904 = to' at *
  generalize st % 4 = st' at *
  generalize mk % 16 = mk' at *
  generalize fl % 4294967296 = fl' at *
  have hws : IntKind.i64.wrap (1 + st') = 1 + st' := by rw [IntKind.wrap_i64]; omega
  have hwf : IntKind.u64.wrap fl' = fl' := by rw [IntKind.wrap_u64]; omega
  unfold laidV itV
  go_enter Tryz.func10, Tryz.ntmps10
  go_upto_region 1 with fail
  generalize (w.alloc (.cells #[.int .i64 cf, .int .i64 cs, .slice ka kn kc, .slice va vn vc, .slice na nn nc, .int .u64 fl, .int .u64 tk, .int .i64 ex, .int .i64 to, .int .i64 st, .int .i64 mk] 25)).alloc (.cells #[.slice none 0 0, .slice none 0 0, .int .u64 0, .int .i64 0, .int .i64 0, .int .u64 0, .int .i64 0, .int .i64 0] 40) = W0 at *
  obtain ⟨c2, c3, c5, c6, c7, c8, c9, c10⟩ := hM0.cc
  have hM0d := hM0.drew
  go_region_held3 (fun w' => w'.cell? ⟨w.heap.size, 2, none⟩ = some (.slice ka kn kc) ∧ w'.cell? ⟨w.heap.size, 3, none⟩ = some (.slice va vn vc) ∧ w'.cell? ⟨w.heap.size, 5, none⟩ = some (.int .u64 fl) ∧ w'.cell? ⟨w.heap.size, 6, none⟩ = some (.int .u64 tk) ∧ w'.cell? ⟨w.heap.size, 7, none⟩ = some (.int .i64 ex) ∧ w'.cell? ⟨w.heap.size, 8, none⟩ = some (.int .i64 to) ∧ w'.cell? ⟨w.heap.size, 9, none⟩ = some (.int .i64 st) ∧ w'.cell? ⟨w.heap.size, 10, none⟩ = some (.int .i64 mk)) ((first | with_reducible exact hMa.cc | go_keep)) ((first | (go_at_call 32; with_reducible refine (hrt _ hM0d.gr).mono ?_; rintro y wa ⟨ao, cap, rfl, hown, hfa⟩; (have hMa := hM0d.step hfa); (have hbi := hMa.br); (have v0 := hbi.cell 0); (have v1 := hbi.cell 1); (have v2 := hbi.cell 2); (have v3 := hbi.cell 3); (have v4 := hbi.cell 4); (have v5 := hbi.cell 5); (have v6 := hbi.cell 6); (have v7 := hbi.cell 7); simp at v0 v1 v2 v3 v4 v5 v6 v7; (have t0 := hbi.fz 0); (have t1 := hbi.fz 1); (have t2 := hbi.fz 2); (have t3 := hbi.fz 3); (have t4 := hbi.fz 4); (have t5 := hbi.fz 5); (have t6 := hbi.fz 6); (have t7 := hbi.fz 7)) | (go_at_call 21; with_reducible refine (hw4 _).mono ?_; rintro y w' ⟨rfl, rfl⟩) | (go_at_call 21; with_reducible refine (hw16 _).mono ?_; rintro y w' ⟨rfl, rfl⟩)))
  have hFs : wa.grownBy ((((((((wa.setCell ⟨w.heap.size + 1, 0, none⟩ (.slice ao (keyOf ys).length cap)).setCell ⟨w.heap.size + 1, 1, none⟩ (.slice va vn vc)).setCell ⟨w.heap.size + 1, 2, none⟩ (.int .u64 fl')).setCell ⟨w.heap.size + 1, 3, none⟩ (.int .i64 ex')).setCell ⟨w.heap.size + 1, 4, none⟩ (.int .i64 to')).setCell ⟨w.heap.size + 1, 5, none⟩ (.int .u64 tk)).setCell ⟨w.heap.size + 1, 6, none⟩ (.int .i64 (1 + st'))).setCell ⟨w.heap.size + 1, 7, none⟩ (.int .i64 mk')) (some (w.heap.size + 1)) := gb_setCell (gb_setCell (gb_setCell (gb_setCell (gb_setCell (gb_setCell (gb_setCell (gb_setCell (gb_refl _ _) _) _) _) _) _) _) _) _
  have hF := gb_mine hMa.gr hFs (by omega)
  have hb9 := ((((((((hMa.br.set 0 (.slice ao (keyOf ys).length cap)).set 1 (.slice va vn vc)).set 2 (.int .u64 fl')).set 3 (.int .i64 ex')).set 4 (.int .i64 to')).set 5 (.int .u64 tk)).set 6 (.int .i64 (1 + st'))).set 7 (.int .i64 mk'))
  have hlt := hM0d.br.lt
  have hsz := hM0d.gr.size
  have hown1 : Own w.heap.size wa ao cap (keyOf ys) := row_base hown (by omega)
  have hown2 := hown1.kept hFs (by
    cases hbk : blk ao with
    | none => exact .inl rfl
    | some k =>
      refine .inr ?_
      have := (hown.lt k hbk).1
      simp
      omega)
  go_wp2
  generalize ((((((((wa.setCell ⟨w.heap.size + 1, 0, none⟩ (.slice ao (keyOf ys).length cap)).setCell ⟨w.heap.size + 1, 1, none⟩ (.slice va vn vc)).setCell ⟨w.heap.size + 1, 2, none⟩ (.int .u64 fl')).setCell ⟨w.heap.size + 1, 3, none⟩ (.int .i64 ex')).setCell ⟨w.heap.size + 1, 4, none⟩ (.int .i64 to')).setCell ⟨w.heap.size + 1, 5, none⟩ (.int .u64 tk)).setCell ⟨w.heap.size + 1, 6, none⟩ (.int .i64 (1 + st'))).setCell ⟨w.heap.size + 1, 7, none⟩ (.int .i64 mk')) = V at *
  have x0 := hb9.cell 0
  have x1 := hb9.cell 1
  have x2 := hb9.cell 2
  have x3 := hb9.cell 3
  have x4 := hb9.cell 4
  have x5 := hb9.cell 5
  have x6 := hb9.cell 6
  have x7 := hb9.cell 7
  simp at x0 x1 x2 x3 x4 x5 x6 x7
  exact bodyPost_ret (v := .agg #[.slice ao (keyOf ys).length cap, .slice va vn vc, .int .u64 fl', .int .i64 ex', .int .i64 to', .int .u64 tk, .int .i64 (1 + st'), .int .i64 mk']) (by simp [results, Tryz.results10, go_sem, x0, x1, x2, x3, x4, x5, x6, x7]) rfl ⟨ao, cap, rfl, hown2, hF⟩

end Go.Proofs.YtoomnhclaofgaaaGreat
