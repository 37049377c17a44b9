/-
  Prefer.
-/
import Derived.Test.YtphhofbdekbggaaRd
namespace Go.Proofs.Ytphhofbdekbggaa
open Go.RowKit
set_option linter.unusedVariables false
set_option linter.unusedSimpArgs false

/-- A list of ints, as values. -/
def ivals (l : List Int) : List Value := l.map (Value.int .i64)
set_option maxHeartbeats 8000000 in
set_option maxRecDepth 100000 in
theorem prefer_20 (g n c : Nat) (ps : List Pt) (w : World) (hn : ps.length = n) (hn2 : n ≤ 1000000) (hP : PtAt w g ps) (hR : Rising ps) (S : Nat) (hS : S ≤ 512) (hsv : ∀ k, k < n → 0 ≤ (pat ps k).2.1 ∧ (pat ps k).2.1 < S)
    {a : Option Addr} {m : Nat} {xs : List Int} (hy : Has w a m xs) (hb : isBytes xs) (cc : Nat) (hm : m ≤ 281474976710656) (s1 : Option Addr) (s3 : Nat) (most : Int) :
    Calls Try.prog 20 #[.agg #[.slice s1 S s3, .slice (some ⟨g, 0, none⟩) n c], .slice a m cc, .int .i64 most] w fun e w' => (∃ i v, Lb ps (point (sumB xs) : Nat) i ∧ e = .returned v ∧ w'.ownsRow w.heap.size 3 1 v ((pre ps (firstN n i) n).take (min most S).toNat).length (ivals ((pre ps (firstN n i) n).take (min most S).toNat))) ∧ w.grownBy w' none := by
  have h40 := fun W (hW : w.grownBy W none) => first_40 g n c ps (.int .i64 0) W hn (by omega) (hP.grown hW) hR (hy.kept0 hW) hb cc hm s1 S s3
  have hf1 : w.grownBy (w.alloc (.cells #[.slice s1 S s3, .slice (some ⟨g, 0, none⟩) n c] 32)) none := gb_alloc (gb_refl _ _) _
  have hbx : Box (w.alloc (.cells #[.slice s1 S s3, .slice (some ⟨g, 0, none⟩) n c] 32)) 32 w.heap.size #[.slice s1 S s3, .slice (some ⟨g, 0, none⟩) n c] := Box.new _ _ _
  have c0 := hbx.cell 0
  have c1 := hbx.cell 1
  have hmk := run_make_b S hS
  have hlt : ∀ i, Lb ps (point (sumB xs) : Nat) i → 0 < n → firstN n i < n := fun i hi h0 => by
    have := hi.le
    unfold firstN
    split <;> omega
  have hq : ∀ W, w.grownBy W none → ∀ i, i < n → W.cell? ⟨g, i * 3, none⟩ = some (.int .u32 (pat ps i).1) ∧ W.cell? ⟨g, i * 3 + 1, none⟩ = some (.int .i64 (pat ps i).2.1) ∧ W.cell? ⟨g, i * 3 + 2, none⟩ = some (.int .i64 (pat ps i).2.2) := fun W hW i hi => (hP.grown hW) i (by omega)
  generalize (point (sumB xs) : Nat) = pt at *
  clear hy hP
  go_enter Try.func20, Try.ntmps20
  generalize hW1 : w.alloc (.cells #[.slice s1 S s3, .slice (some ⟨g, 0, none⟩) n c] 32) = W1 at *
  have hsz : W1.heap.size = w.heap.size + 1 := by rw [← hW1]; simp
  simp at c0 c1
  have hbo : Box (W1.alloc (.cells (bts S []).toArray 4)) 32 w.heap.size #[.slice s1 S s3, .slice (some ⟨g, 0, none⟩) n c] := hbx.kept (gb_alloc (gb_refl W1 none) _) (by simp)
  have hmo : Box (W1.alloc (.cells (bts S []).toArray 4)) 4 (w.heap.size + 1) (bts S []).toArray := by rw [← hsz]; exact Box.new _ _ _
  go_wp2_with (first
    | (go_at_call 40; go_must (refine (h40 _ (gb_alloc hf1 _)).mono ?_); rintro z w2 ⟨⟨i, hlb, rfl⟩, hg2⟩; (have hb2 := hbo.kept hg2 (by simp)); (have hm2 := hmo.kept hg2 (by simp)); (have hf2 := gb_trans (gb_alloc hf1 _) hg2); (have d0 := hb2.cell 0); (have d1 := hb2.cell 1); simp at d0 d1) | fail)
  all_goals
    clear hbo hmo hbx c0 c1 h40 hmk hf1 hg2 hW1
    have hlt2 := hlt i hlb
    generalize hM : min most (S : Int) = M at *
    generalize hb0 : w.heap.size = b at *
    have hsz2 : b + 2 ≤ w2.heap.size := by have := hm2.lt; omega
    generalize hff : firstN n i = f at *
    go_loopw [8, 9, 10, 26] (fun l x y z wr => ∃ (k : Nat), k ≤ n ∧ z = .int .i64 k ∧ (∃ ix : Nat, x = .int .i64 ix ∧ (0 < n → ix = (f + k) % n)) ∧ Box wr 4 (b + 1) (bts S (pre ps f k)).toArray ∧ Box wr 32 b #[.slice s1 S s3, .slice (some ⟨g, 0, none⟩) n c] ∧ wr.ownsRow (b + 2) 3 1 l (pre ps f k).length (ivals (pre ps f k)) ∧ (pre ps f k).length ≤ M.toNat ∧ w.grownBy wr none ∧ b + 2 ≤ wr.heap.size) (fun _ _ _ z _ => n - (intOf z).toNat)
    case atStart => exact ⟨0, by omega, rfl, ⟨f, rfl, fun h0 => (Nat.mod_eq_of_lt (hlt2 h0)).symm⟩, hm2, hb2, World.ownsRow_nil _ _ _ _, by simp [pre], hf2, hsz2⟩
    case round =>
      clear hm2 hb2 hf2 d0 d1 hsz2
      obtain ⟨k, hk, rfl, ⟨ix, rfl, hix⟩, hmet, hbx, hrow, hlen, hg, hsz3⟩ := hrel
      have d0 := hbx.cell 0
      have d1 := hbx.cell 1
      simp at d0 d1
      obtain ⟨la, lc, rfl, hl1, hl2⟩ := row_shape hrow
      by_cases hkn : k < n
      · have hn0 : ¬ n = 0 := by omega
        have hix := hix (by omega)
        have hmod : ix < n := by rw [hix]; exact Nat.mod_lt _ (by omega)
        obtain ⟨e0, e1, e2⟩ := hq wr hg ix hmod
        obtain ⟨s0, sS⟩ := hsv ix hmod
        have hs : (pat ps ix).2.1 = srv ps f k := by unfold srv; rw [hn, hix]
        rw [hs] at e1 s0 sS
        have HIX : Hid (((ix + 1) % n : Nat) = (f + (k + 1)) % n) := by
          show (ix + 1) % n = _
          rw [hix, Nat.mod_add_mod]
          rfl
        have HNX : Hid (∃ j : Nat, ((ix : Int) + 1) % (n : Int) = (j : Int) ∧ (0 < n → j = (f + (k + 1)) % n)) := ⟨(ix + 1) % n, by push_cast; rfl, fun _ => HIX.out⟩
        clear hix
        obtain ⟨sn, hsn⟩ : ∃ sn : Nat, srv ps f k = (sn : Int) := ⟨(srv ps f k).toNat, by omega⟩
        rw [hsn] at e1 s0 sS
        by_cases hin : srv ps f k ∈ pre ps f k
        · have ec := hmet.cell sn
          rw [bts_get S _ sn (by omega)] at ec
          have hin2 := hin
          rw [hsn] at hin2
          simp only [hin2, decide_true] at ec
          have HS : Hid (Box wr 4 (b + 1) (bts S (pre ps f (k + 1))).toArray ∧ wr.ownsRow (b + 2) 3 1 (.slice la (pre ps f k).length lc) (pre ps f (k + 1)).length (ivals (pre ps f (k + 1))) ∧ (pre ps f (k + 1)).length ≤ M.toNat) := by
            rw [pre_yes hin]
            exact ⟨hmet, hrow, hlen⟩
          have HR : Hid ((pre ps f k).length ≥ M.toNat → wr.ownsRow b 3 1 (.slice la (pre ps f k).length lc) ((pre ps f n).take M.toNat).length (ivals ((pre ps f n).take M.toNat))) := fun h => by
            rw [pre_take ps f k n M.toNat hk (by omega)]
            exact row_base hrow (by omega)
          go_wp2_with fail
          · go_ret
            exact ⟨⟨i, _, hlb, rfl, by rw [hff, hM, hb0]; exact HR.out (by omega)⟩, hg⟩
          · go_roundw
            case rel =>
              obtain ⟨j, hj, hj2⟩ := HNX.out
              exact ⟨k + 1, by omega, by go_num, ⟨j, by rw [hj], hj2⟩, HS.out.1, hbx, HS.out.2.1, HS.out.2.2, hg, hsz3⟩
            case measure => simp [intOf]; omega
        · have ec := hmet.cell sn
          have efz := hmet.fz sn
          rw [bts_get S _ sn (by omega)] at ec
          have hin2 := hin
          rw [hsn] at hin2
          simp only [hin2, decide_false] at ec
          have HR : Hid ((pre ps f k).length ≥ M.toNat → wr.ownsRow b 3 1 (.slice la (pre ps f k).length lc) ((pre ps f n).take M.toNat).length (ivals ((pre ps f n).take M.toNat))) := fun h => by
            rw [pre_take ps f k n M.toNat hk (by omega)]
            exact row_base hrow (by omega)
          have hkl := pre_len ps f k
          have hrow1 : (wr.setCell ⟨b + 1, sn, none⟩ (.bool true)).ownsRow (b + 2) 3 1 (.slice la (pre ps f k).length lc) (pre ps f k).length (ivals (pre ps f k)) :=
            row_same hrow (fun q hq => heap_setCell_other _ _ _ _ (by have := (hrow.lt q hq).1; simp; omega))
          have hs1 := hmet.set sn (.bool true)
          rw [bts_set S _ sn (by omega)] at hs1
          have hb1 : Box (wr.setCell ⟨b + 1, sn, none⟩ (.bool true)) 32 b #[.slice s1 S s3, .slice (some ⟨g, 0, none⟩) n c] := hbx.kept (gb_setCell (gb_refl wr (some (b + 1))) (.bool true)) (by simp)
          have hg1 : w.grownBy (wr.setCell ⟨b + 1, sn, none⟩ (.bool true)) none := gb_far hg (gb_setCell (gb_refl wr (some (b + 1))) (i := sn) (.bool true)) (B := b + 1) (fun i e => by cases e; exact Nat.le_refl _) (by omega)
          have hz1 : b + 2 ≤ (wr.setCell ⟨b + 1, sn, none⟩ (.bool true)).heap.size := by simpa using hsz3
          have f1 : (wr.setCell ⟨b + 1, sn, none⟩ (.bool true)).cell? ⟨b, 1, none⟩ = some (.slice (some ⟨g, 0, none⟩) n c) := by have := hb1.cell 1; simpa using this
          have HA : Hid _ := hs1
          have HB : Hid _ := hb1
          have HG : Hid _ := hg1
          have HZ : Hid (b + 2 ≤ (wr.setCell ⟨b + 1, sn, none⟩ (.bool true)).heap.size) := hz1
          have HRW : Hid _ := hrow
          have hnb : ∀ q, (Value.slice la (pre ps f k).length lc).ownBlock = some q → b + 2 ≤ q := fun q hq => (World.ownsRow.lt hrow q hq).1
          have HX : Hid (∀ (g1 cap1 : Nat) (w4 : World), w4.ownsRow (b + 2) 3 1 (.slice (some ⟨g1, 0, none⟩) ((pre ps f k).length + 1) cap1) ((pre ps f k).length + 1) (ivals (pre ps f k) ++ [.int .i64 (sn : Int)]) → (wr.setCell ⟨b + 1, sn, none⟩ (.bool true)).grownBy w4 (Value.slice la (pre ps f k).length lc).ownBlock →
              Box w4 4 (b + 1) (bts S (pre ps f (k + 1))).toArray ∧ Box w4 32 b #[.slice s1 S s3, .slice (some ⟨g, 0, none⟩) n c] ∧ w4.ownsRow (b + 2) 3 1 (.slice (some ⟨g1, 0, none⟩) ((pre ps f k).length + 1) cap1) (pre ps f (k + 1)).length (ivals (pre ps f (k + 1))) ∧ (pre ps f (k + 1)).length = (pre ps f k).length + 1 ∧ w.grownBy w4 none ∧ b + 2 ≤ w4.heap.size) := fun g1 cap1 w4 ho4 hg4 => by
            rw [pre_no hin, hsn]
            refine ⟨Box.kept HA.out hg4 (fun e => ?_), Box.kept HB.out hg4 (fun e => ?_), ?_, by simp, gb_far HG.out hg4 (B := b) (fun q hq => by have := hnb q hq; omega) (by omega), ?_⟩
            · have := hnb (b + 1) e.symm; omega
            · have := hnb b e.symm; omega
            · simpa [ivals] using ho4
            · have := hg4.size
              have := HZ.out
              omega
          clear hs1 hb1 hg1 hmet hbx hrow hnb
          go_wp2_with (at_builtin; go_must (refine push3 rfl _ _ rfl (b + 2) _ (pre ps f k).length _ (by rfl) hrow1 sn (by rw [World.size_setCell]; rfl) (by omega) HZ.out ?_); intro g1 cap1 w4 ho4 hg4 hat4; (have HA4 : Hid _ := HX.out g1 cap1 w4 ho4 hg4); (have f4 := Box.cell HA4.out.2.1 1); simp only [List.getElem?_toArray, List.getElem?_cons_succ, List.getElem?_cons_zero] at f4; clear ho4 hg4 hat4)
          · go_ret
            exact ⟨⟨i, _, hlb, rfl, by rw [hff, hM, hb0]; exact HR.out (by omega)⟩, hg⟩
          have hM1 : (pre ps f k).length < M.toNat := by omega
          go_roundw
          case rel =>
            obtain ⟨j, hj, hj2⟩ := HNX.out
            have hlx := HA4.out.2.2.2.1
            exact ⟨k + 1, by omega, by go_num, ⟨j, by rw [hj], hj2⟩, HA4.out.1, HA4.out.2.1, HA4.out.2.2.1, by omega, HA4.out.2.2.2.2.1, HA4.out.2.2.2.2.2⟩
          case measure => simp [intOf]; omega
      · obtain rfl : k = n := by omega
        have HR : Hid (wr.ownsRow b 3 1 (.slice la (pre ps f k).length lc) ((pre ps f k).take M.toNat).length (ivals ((pre ps f k).take M.toNat))) := by
          show wr.ownsRow b 3 1 _ _ _
          rw [List.take_of_length_le hlen]
          exact row_base hrow (by omega)
        clear hmet hbx hrow
        go_wp2_with fail
        go_ret
        exact ⟨⟨i, _, hlb, rfl, by rw [hff, hM, hb0]; exact HR.out⟩, hg⟩
end Go.Proofs.Ytphhofbdekbggaa
