/-
  Owner.
-/
import Derived.Test.YtphhofbdekbggaaRb
import Derived.Test.YtphhofbdekbggaaI
namespace Go.Proofs.Ytphhofbdekbggaa
open Go.RowKit
set_option linter.unusedVariables false
set_option linter.unusedSimpArgs false

/-- Where a key comes to the circle: the number of the point there. -/
def firstN (n i : Nat) : Nat := if i = n then 0 else i
set_option maxHeartbeats 4000000 in
theorem first_40 (g n c : Nat) (ps : List Pt) (sv : Value) (w : World) (hn : ps.length = n) (hn2 : n ≤ 281474976710656) (hP : PtAt w g ps) (hR : Rising ps)
    {a : Option Addr} {m : Nat} {xs : List Int} (hy : Has w a m xs) (hb : isBytes xs) (cc : Nat) (hm : m ≤ 281474976710656) (s1 : Option Addr) (s2 s3 : Nat) :
    Calls Try.prog 40 #[.agg #[.slice s1 s2 s3, .slice (some ⟨g, 0, none⟩) n c], .slice a m cc] w fun e w' => (∃ i, Lb ps (point (sumB xs) : Nat) i ∧ e = .returned (.int .i64 (firstN n i : Nat))) ∧ w.grownBy w' none := by
  have hl := sumB_lt xs
  have hs : ∀ W, w.grownBy W none → Calls Try.prog 54 #[.slice a m cc] W fun e w' => e = .returned (.int .u64 (sumB xs : Nat)) ∧ w' = W := fun W hW => sum_11 (hy.kept0 hW) hb cc hm
  have hp := fun W => point_18 (sumB xs) hl W
  have h55 := fun W (hW : w.grownBy W none) => search_55 g n c ps (point (sumB xs) : Nat) W hn hn2 (hP.grown hW) hR
  generalize point (sumB xs) = pt at *
  generalize sumB xs = sb at *
  have hf1 : w.grownBy (w.alloc (.cells #[.slice s1 s2 s3, .slice (some ⟨g, 0, none⟩) n c] 32)) none := gb_alloc (gb_refl _ _) _
  have c0 : (w.alloc (.cells #[.slice s1 s2 s3, .slice (some ⟨g, 0, none⟩) n c] 32)).cell? ⟨w.heap.size, 0, none⟩ = some (.slice s1 s2 s3) := by simp
  have c1 : (w.alloc (.cells #[.slice s1 s2 s3, .slice (some ⟨g, 0, none⟩) n c] 32)).cell? ⟨w.heap.size, 1, none⟩ = some (.slice (some ⟨g, 0, none⟩) n c) := by simp
  clear hy hP
  go_enter Try.func40, Try.ntmps40
  go_wp2_with (first
    | (go_at_call 54; go_must (refine (hs _ hf1).mono ?_); rintro y w' ⟨rfl, rfl⟩)
    | (go_at_call 53; go_must (refine (hp _).mono ?_); rintro y w' ⟨rfl, rfl⟩)
    | (go_at_call 55; go_must (refine (h55 _ hf1).mono ?_); rintro y w2 ⟨⟨i, bb, rfl, hlb⟩, hg2⟩; (have hf2 := gb_trans hf1 hg2); (have c2 := gb_cellN hg2 c1)) | fail)
  · have hq : ((i : Int) == (n : Int)) = true := by assumption
    have hin : i = n := by have := eq_of_beq hq; omega
    have hr : firstN n i = 0 := by simp [firstN, hin]
    go_ret
    exact ⟨⟨i, hlb, by rw [hr]; rfl⟩, hf2⟩
  · have hq : ((i : Int) == (n : Int)) = false := by assumption
    have hin : ¬ i = n := by have := ne_of_beq_false hq; omega
    have hr : firstN n i = i := by simp [firstN, hin]
    go_ret
    exact ⟨⟨i, hlb, by rw [hr]; rfl⟩, hf2⟩
set_option maxHeartbeats 4000000 in
theorem owner_25 (g n c : Nat) (ps : List Pt) (w : World) (hn : ps.length = n) (h0 : 0 < n) (hn2 : n ≤ 281474976710656) (hP : PtAt w g ps) (hR : Rising ps)
    {a : Option Addr} {m : Nat} {xs : List Int} (hy : Has w a m xs) (hb : isBytes xs) (cc : Nat) (hm : m ≤ 281474976710656) (s1 : Option Addr) (s2 s3 : Nat) :
    Calls Try.prog 25 #[.agg #[.slice s1 s2 s3, .slice (some ⟨g, 0, none⟩) n c], .slice a m cc] w fun e w' => (∃ i, Lb ps (point (sumB xs) : Nat) i ∧ e = .returned (.tuple #[.int .i64 (pat ps (firstN n i)).2.1, .int .i64 0])) ∧ w.grownBy w' none := by
  have h40 := fun W (hW : w.grownBy W none) => first_40 g n c ps (.int .i64 0) W hn hn2 (hP.grown hW) hR (hy.kept0 hW) hb cc hm s1 s2 s3
  have hf1 : w.grownBy (w.alloc (.cells #[.slice s1 s2 s3, .slice (some ⟨g, 0, none⟩) n c] 32)) none := gb_alloc (gb_refl _ _) _
  have c0 : (w.alloc (.cells #[.slice s1 s2 s3, .slice (some ⟨g, 0, none⟩) n c] 32)).cell? ⟨w.heap.size, 0, none⟩ = some (.slice s1 s2 s3) := by simp
  have c1 : (w.alloc (.cells #[.slice s1 s2 s3, .slice (some ⟨g, 0, none⟩) n c] 32)).cell? ⟨w.heap.size, 1, none⟩ = some (.slice (some ⟨g, 0, none⟩) n c) := by simp
  have hlt : ∀ i, Lb ps (point (sumB xs) : Nat) i → firstN n i < n := fun i hi => by
    have := hi.le
    unfold firstN
    split <;> omega
  have hq : ∀ W, w.grownBy W none → ∀ i, i < n → W.cell? ⟨g, i * 3, none⟩ = some (.int .u32 (pat ps i).1) ∧ W.cell? ⟨g, i * 3 + 1, none⟩ = some (.int .i64 (pat ps i).2.1) ∧ W.cell? ⟨g, i * 3 + 2, none⟩ = some (.int .i64 (pat ps i).2.2) := fun W hW i hi => (hP.grown hW) i (by omega)
  generalize (point (sumB xs) : Nat) = pt at *
  clear hy hP
  go_enter Try.func25, Try.ntmps25
  go_wp2_with fail
  generalize w.alloc (.cells #[.slice s1 s2 s3, .slice (some ⟨g, 0, none⟩) n c] 32) = W1 at *
  generalize w.heap.size = b at *
  have hf0 : w.grownBy W1.drew none := gb_drew hf1
  have hk0 : W1.drew.cell? ⟨b, 0, none⟩ = some (.slice s1 s2 s3) ∧ W1.drew.cell? ⟨b, 1, none⟩ = some (.slice (some ⟨g, 0, none⟩) n c) ∧ ∀ i, i < n → W1.drew.cell? ⟨g, i * 3 + 1, none⟩ = some (.int .i64 (pat ps i).2.1) := ⟨c0, c1, fun i hi => (hq _ hf0 i hi).2.1⟩
  go_region_held3 (fun W => W.cell? ⟨b, 0, none⟩ = some (.slice s1 s2 s3) ∧ W.cell? ⟨b, 1, none⟩ = some (.slice (some ⟨g, 0, none⟩) n c) ∧ ∀ i, i < n → W.cell? ⟨g, i * 3 + 1, none⟩ = some (.int .i64 (pat ps i).2.1)) ((first | with_reducible exact hk1 | with_reducible exact hk0 | go_keep)) ((first
    | (go_at_call 40; with_reducible refine (h40 _ hf0).mono ?_; rintro z w2 ⟨⟨i, hlb, rfl⟩, hg2⟩; (have hf2 := gb_trans hf0 hg2); (have hk1 := And.intro (gb_cellN hg2 hk0.1) (And.intro (gb_cellN hg2 hk0.2.1) (fun i hi => (hq _ hf2 i hi).2.1))); (have hix := hlt i hlb))))
  go_wp2
  go_ret2
  exact ⟨⟨i, hlb, rfl⟩, hf2⟩
end Go.Proofs.Ytphhofbdekbggaa
