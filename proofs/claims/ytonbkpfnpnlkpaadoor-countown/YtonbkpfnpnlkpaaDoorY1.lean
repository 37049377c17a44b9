/-
  CountOrder: sums.
-/
import Derived.Test.YtonbkpfnpnlkpaaDoorY0
import Derived.Test.YtonbkpfnpnlkpaaDoorL
namespace Go.Proofs.YtonbkpfnpnlkpaaDoor
open Go.ChangeShapes Go.WideShapes Go.ChangeAt Go.RowKit

/-- The sum of the first n. -/
def su (f : Nat → Cn) : Nat → Cn
  | 0 => fun _ => 0
  | n + 1 => Cn.add (su f n) (f n)
theorem su_congr {f g : Nat → Cn} : ∀ n, (∀ k, k < n → f k = g k) → su f n = su g n
  | 0, _ => rfl
  | n + 1, h => by rw [su, su, su_congr n (fun k hk => h k (by omega)), h n (by omega)]
theorem su_shift (f : Nat → Cn) : ∀ n, su f (n + 1) = Cn.add (f 0) (su (fun k => f (k + 1)) n)
  | 0 => by funext i; simp [su, Cn.add]
  | n + 1 => by
    rw [su, su_shift f n, su]
    funext i; simp only [Cn.add]; omega
theorem su_rev (f : Nat → Cn) : ∀ n, su (fun k => f (n - 1 - k)) n = su f n
  | 0 => rfl
  | n + 1 => by
    rw [su_shift]
    have e : su (fun k => f (n + 1 - 1 - (k + 1))) n = su f n := by
      rw [← su_rev f n]
      exact su_congr n (fun k hk => by rw [show n + 1 - 1 - (k + 1) = n - 1 - k by omega])
    rw [e, su]
    funext i; simp only [Cn.add]; rw [show n + 1 - 1 - 0 = n by omega]; omega
def ev (f : Nat → Cn) : Nat → Cn := fun k => if k % 2 = 0 then f k else fun _ => 0
def od (f : Nat → Cn) : Nat → Cn := fun k => if k % 2 = 0 then fun _ => 0 else f k
theorem su_eo (f : Nat → Cn) (i : Nat) : ∀ n, su (ev f) n i + su (od f) n i = su f n i
  | 0 => rfl
  | n + 1 => by
    have := su_eo f i n
    simp only [su, Cn.add, ev, od]
    split <;> (dsimp only; omega)
theorem plus_eo (f : Nat → Cn) (n : Nat) : plus (plus N0 (su (ev f) n)) (plus N0 (su (od f) n)) = plus N0 (su f n) := by
  funext i
  have := su_eo f i n
  simp only [plus, N0]
  omega
theorem plus_su (f : Nat → Cn) (n : Nat) : plus (plus N0 (su f n)) (f n) = plus N0 (su f (n + 1)) := by rw [plus_plus, su]
theorem ev_even (f : Nat → Cn) {n : Nat} (h : n % 2 = 0) : plus (plus N0 (su (ev f) n)) (f n) = plus N0 (su (ev f) (n + 1)) ∧ su (od f) (n + 1) = su (od f) n := by
  refine ⟨?_, ?_⟩
  · rw [plus_plus, su]; simp [ev, h]
  · rw [su]; funext i; simp [Cn.add, od, h]
theorem ev_odd (f : Nat → Cn) {n : Nat} (h : ¬ n % 2 = 0) : plus (plus N0 (su (od f) n)) (f n) = plus N0 (su (od f) (n + 1)) ∧ su (ev f) (n + 1) = su (ev f) n := by
  refine ⟨?_, ?_⟩
  · rw [plus_plus, su]; simp [od, h]
  · rw [su]; funext i; simp [Cn.add, ev, h]
/-- Up to m the sum, from there on the first. -/
def mix (m : Nat) (E O : Cn) : Cn := fun j => if j < m then plus E O j else E j
theorem mix_fit (m : Nat) {E O : Cn} (hE : Fit E) : Fit (mix m E O) := fun j => by
  unfold mix; split
  · exact plus_fit E O j
  · exact hE j
theorem mix_step {E O : Cn} (hE : Fit E) (m : Nat) : plus (mix m E O) (sgl m (O m)) = mix (m + 1) E O := by
  funext j
  have := hE j
  simp only [plus, mix, sgl]
  by_cases h1 : j < m
  · simp only [h1, if_true, show ¬ j = m by omega, if_false, show j < m + 1 by omega]; omega
  · by_cases h2 : j = m
    · subst h2; simp
    · simp only [h1, h2, if_false, show ¬ j < m + 1 by omega]; omega
theorem Bd.same {W : World} {b : Nat} {k : Int} {N N' : Cn} (h : Bd W b k N) (e : ∀ j, 1 ≤ j → j ≤ 30 → N j = N' j) : Bd W b k N' := by
  unfold Bd at h ⊢
  rw [show bdA k N' = bdA k N from ?_]
  · exact h
  · unfold bdA
    rw [List.map_congr_left (g := fun i => Value.int .u64 (N (i + 1) : Nat)) (fun i hi => by rw [e (i + 1) (by omega) (by have := List.mem_range.1 hi; omega)])]
/-- What a call adds. -/
def dO (x : Oc) : Cn := cmdD x.c x.a x.fl x.why x.m
theorem cmd_any {b : Nat} {N : Cn} {x : Oc} {w W : World} (hb : Bd W b 0 N) (fit : Fit N) (ok : OcOk w x) (g : w.grownBy W none) (hwb : w.heap.size ≤ b) :
    Calls Tryd.prog 19 #[.pointer (some ⟨b, 0, none⟩), cmV x.c, anV x.a, x.y, mtV x.m] W fun e w' => e = .returned (.tuple #[]) ∧ Bd w' b 0 (plus N (dO x)) ∧ Kp (· = b) W w' := by
  have o2 := ok.kept g
  exact command_19 b N x.c x.a x.y x.fl x.why x.m W hb fit ok.a o2.fl (ok.fl.off (fun k hk => by omega)) o2.why (ok.why.off (fun k hk => by omega)) ok.m
/-- What the i-th adds. -/
def fO (l : List Oc) (k : Nat) : Cn := match l[k]? with | some x => dO (fewO x) | none => fun _ => 0
theorem fO_at {l : List Oc} {k : Nat} {x : Oc} (h : l[k]? = some x) : fO l k = dO (fewO x) := by simp [fO, h]
theorem ocL_len (x : Oc) : (ocL x).length = 23 := rfl
theorem ocL_one {w : World} {x : Oc} (h : OcOk w x) : (ocL x).toArray.all (·.oneCell') = true := by
  obtain ⟨⟨vb, ka, kn, kc, fl1, ex, tk, de, da, dn, dc, nr, lg, ma, mn, mc, what⟩, ⟨ak, en, nu, tx, st⟩, y, ⟨dr, re, bu, li, lo, cr⟩, fl, why⟩ := x
  obtain ⟨ha, hfl, hwy, hm⟩ := h
  obtain ⟨⟨x1, n1, k1, e1⟩, ⟨n2, e2⟩, ⟨x3, n3, k3, e3⟩, hl⟩ := ha
  obtain ⟨ya, yc, e4, _⟩ := hwy
  simp only at e1 e2 e3 e4
  subst e1 e2 e3 e4
  simp [ocL, Value.oneCell', sv]
def Z53 : Array Value := #[.int .i64 0, .slice none 0 0, .int .u64 0, .int .i64 0, .int .u64 0, .int .u64 0, .slice none 0 0, .bool false, .bool false, .slice none 0 0, .string ⟨#[]⟩, .int .i64 0, .slice none 0 0, .int .u64 0, .string ⟨#[]⟩, .slice none 0 0, .slice none 0 0, .int .i64 0, .int .i64 0, .int .i64 0, .int .i64 0, .int .i64 0, .int .i64 0]
theorem setsZ (x : Oc) : sets Z53 0 (ocL x) = (ocL x).toArray := by
  simp only [Z53, ocL, sets, List.setIfInBounds_toArray, List.set_cons_zero, List.set_cons_succ]
end Go.Proofs.YtonbkpfnpnlkpaaDoor
