/-
  HashPoints: words. Points with its very row; rows of rows; appends that find no room.
-/
import Derived.Test.YtcbogbohafmnhaaK
namespace Go.Proofs.Ytcbogbohafmnhaa
open Go.RowKit
set_option linter.unusedVariables false

set_option maxRecDepth 100000 in
set_option maxHeartbeats 1000000 in
theorem points_20x (xs : List Int) (n : Nat) (hb : isBytes xs) (h1 : 1 ≤ xs.length) (h2 : xs.length ≤ 250) (h3 : 1 ≤ n) (h4 : n ≤ 512) (w : World) :
    Calls Try.prog 20 #[.string (strOfNums xs), .int .i64 n] w fun e w' => ∃ g, e = .returned (.tuple #[.slice (some ⟨g, 0, none⟩) n n, .int .i64 0]) ∧ w.heap.size ≤ g ∧ Box w' 34 g (uvals (pts xs n)).toArray ∧ w.grownBy w' none := by
  have hsz := strOfNums_size xs
  obtain ⟨W, c, hcv, hF, hH⟩ := str_bytes w xs hb
  have hs := sum_11 hH hb c (by omega)
  have hnx := next_27 (sumB xs) 45 (sumB_lt _) (by omega)
  simp only [Int.cast_ofNat_Int] at hnx
  have hl := fnv_lt (sumB xs) 45
  have hmk := run_make_u n h4
  have HP : Hid (∀ k, ptN xs k = point (fon (fnv (sumB xs) 45) (dig k))) := fun k => rfl
  have HB := sumB_lt xs
  generalize fnv (sumB xs) 45 = st at *
  generalize sumB xs = sb at *
  generalize hS : strOfNums xs = s at *
  generalize hm : xs.length = m at *
  clear hS hm
  go_enter Try.func20, Try.ntmps20
  go_wp2_with (first | (go_at_call 11; go_must (refine hs.mono ?_); rintro e W ⟨rfl, rfl⟩) | (go_at_call 27; go_must (refine (hnx _).mono ?_); rintro e W ⟨rfl, rfl⟩) | fail)
  clear hcv hs hH hnx hmk
  have hb0 := Box.new W 34 (uvals (List.replicate n 0)).toArray
  have hg0 := gb_alloc hF (.cells (uvals (List.replicate n 0)).toArray 34)
  have hgs := hF.size
  generalize W.heap.size = g at *
  generalize W.alloc (.cells (uvals (List.replicate n 0)).toArray 34) = W1 at *
  go_loopw [33] (fun x wr => ∃ (k : Nat), k ≤ n ∧ x = .int .i64 k ∧ Box wr 34 g (ptz xs n k) ∧ w.grownBy wr none) (fun x _ => n - (intOf x).toNat)
  case atStart => exact ⟨0, by omega, rfl, by rw [ptz_zero]; exact hb0, hg0⟩
  case round =>
    clear hb0 hg0
    obtain ⟨k, hk, rfl, hbx, hg⟩ := hrel
    by_cases hlt : k < n
    · have hd := digits_33 k st hl (by omega)
      have hp := point_18 (fon st (dig k)) (fon_lt _ _ hl)
      have hpl := point_lt (fon st (dig k))
      have hfl := fon_lt st (dig k) hl
      have HS := ptz_set xs n k hlt
      rw [HP.out k] at HS
      generalize point (fon st (dig k)) = pt at *
      generalize fon st (dig k) = dd at *
      have HS : Hid _ := HS
      have hd3 : decide (k < n) = true := by simp; omega
      have hfz := hbx.fz k
      have hcl := hbx.cell k
      have hbs := hbx.set k (.int .u32 (pt : Int))
      rw [HS.out] at hbs
      have hgs2 := gb_far hg (gb_setCell (gb_refl wr (some g)) (i := k) (.int .u32 (pt : Int))) (B := g) (fun i e => by cases e; exact Nat.le_refl _) (by omega)
      rw [show (ptz xs n k)[k]? = some (ptz xs n k)[k]! from by
        have := ptz_size xs n k hk
        rw [Array.getElem?_eq_getElem (by omega), getElem!_pos _ _ (by omega)]] at hcl
      generalize (ptz xs n k)[k]! = old at *
      have HBS : Hid _ := hbs
      have HGS : Hid _ := hgs2
      clear HS hbs hgs2
      go_wp2_with (first | (go_at_call 33; go_must (refine (hd _).mono ?_); rintro e w' ⟨rfl, rfl⟩) | (go_at_call 18; go_must (refine (hp _).mono ?_); rintro e w' ⟨rfl, rfl⟩) | fail)
      go_roundw
      case rel => exact ⟨k + 1, by omega, by go_num, HBS.out, HGS.out⟩
      case measure => simp [intOf]; omega
    · obtain rfl : k = n := by omega
      rw [ptz_all] at hbx
      have HO : Hid _ := hbx
      clear hbx
      go_wp2
      go_ret2
      exact ⟨g, rfl, hgs, HO.out, hg⟩


theorem Try.info41 : (Try.prog.info? 41).map (fun i => (i.zero, i.size, i.bytes)) = some (some (.slice none 0 0), 1, 24) := by kernel_rfl

section
variable {w : World} {ops : Array Oper} {rest : List Oper} {o : Oper} {a : Act} {Q : Exit → Act → World → Prop}
/-- append(l, s): a row of rows. -/
theorem push41 (hgd : o.guard = none) (s x : Operand) (ho : o.op = .call { callee := .builtin .append, args := #[s, x], argTypes := #[38, 38] })
    (B : Nat) (v : Value) (n : Nat) (us : List Value) (hs : a.eval s = v) (hown : w.ownsRow B 41 1 v n us) (u : Value) (hu : u.oneCell' = true) (hx : a.eval x = .slice (some ⟨w.heap.size, 0, none⟩) 1 1) (hn : n ≤ 1000) (hB : B ≤ w.heap.size)
    (h : ∀ v' w', w'.ownsRow B 41 1 v' (n + 1) (us ++ [u]) → w.grownBy w' v.ownBlock → (v'.ownBlock = v.ownBlock ∨ ∀ k, v'.ownBlock = some k → w.heap.size ≤ k) → wpList Try.prog ops Q rest (a.put o.dst v') w') : wpList Try.prog ops Q (o :: rest) a (w.alloc (.cells #[u] 41)) := by
  obtain ⟨i0, hi, hz0, hz1, hz2⟩ := info_parts Try.info41
  refine wpList_pushN hgd s x 38 ho 41 i0 _ 1 24 Try.underlying38 hi hz0 hz1 hz2 rfl (by omega) (by omega) B v n us hs hown [u] rfl (by simpa using hu) hx (by omega) hB ?_
  intro g cap w' h1 h2 h3
  refine h _ w' h1 h2 ?_
  rcases h3 with h3 | h3
  · exact .inl h3.symm
  · exact .inr fun k hk => by cases hk; exact h3
/-- append(g, u) where there is no room: a new row. -/
theorem push34_full (hgd : o.guard = none) (s x : Operand) (ho : o.op = .call { callee := .builtin .append, args := #[s, x], argTypes := #[41, 41] })
    (g n : Nat) (us : List Nat) (hs : a.eval s = .slice (some ⟨g, 0, none⟩) n n) (hl : us.length = n) (hbx : Box w 34 g (uvals us).toArray) (u : Nat) (hx : a.eval x = .slice (some ⟨w.heap.size, 0, none⟩) 1 1) (hn : n ≤ 1000)
    (h : ∀ v' w', OwnU w.heap.size w' v' (us ++ [u]) → w.grownBy w' none → wpList Try.prog ops Q rest (a.put o.dst v') w') : wpList Try.prog ops Q (o :: rest) a (w.alloc (.cells #[.int .u32 (u : Int)] 34)) := by
  obtain ⟨i0, hi, hz0, hz1, hz2⟩ := info_parts Try.info34
  have hal := World.grownBy_alloc w (.cells #[.int .u32 (u : Int)] 34) none
  have hb2 := hbx.kept hal (by simp)
  refine wpList_plain hgd fun K hK => ?_
  obtain ⟨v', w', hrun, r1, r2⟩ := run_append_arg_grows (P := Try.prog) (w.alloc (.cells #[.int .u32 (u : Int)] 34)) 41 o.type 34 i0 _ 1 4 Try.underlying41 hi hz0 hz1 hz2 rfl (by omega) ⟨g, 0, none⟩ n n (uvals us) (by simp [uvals, hl]) (by
    intro j y hj
    rw [Addr.add_mid, Nat.zero_add, hb2.cell j]
    simpa using hj) ⟨w.heap.size, 0, none⟩ 1 1 [.int .u32 (u : Int)] rfl (by
    intro j y hj
    have hj0 : j = 0 := by
      have := (List.getElem?_eq_some_iff.1 hj).1
      simp at this; omega
    subst hj0
    simp at hj
    subst hj
    rw [Addr.add_mid, (Box.new w 34 #[.int .u32 (u : Int)]).cell]
    rfl) (by omega) (by unfold maxLen; omega) (by omega)
  have hK2 := hK _ _ (h v' w' (by
    have := row_base r1 (B' := w.heap.size) (by simp)
    unfold OwnU
    rw [List.length_append, hl, show uvals (us ++ [u]) = uvals us ++ [.int .u32 (u : Int)] from by simp [uvals]]
    exact this) (gb_trans hal r2))
  unfold Oper.wp
  simp [execOp, ho, resolve, invoke, builtin, hs, hx, hrun, Result.andThen]
  exact hK2
end

end Go.Proofs.Ytcbogbohafmnhaa
