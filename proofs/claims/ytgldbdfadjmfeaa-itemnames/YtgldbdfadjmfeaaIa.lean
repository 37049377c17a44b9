/-
  Bytes of an item, as lists.
-/
import Derived.Test.YtgldbdfadjmfeaaSo
import Derived.Test.YtgldbdfadjmfeaaDa
namespace Go.Proofs.Ytgldbdfadjmfeaa
open Go.RowKit
set_option linter.unusedVariables false

/-- A number in so many bytes, the highest first. -/
def be : Nat → Int → List Int
  | 0, _ => []
  | n + 1, v => be n (v / 256) ++ [v % 256]
theorem be_len : ∀ (n : Nat) (v : Int), (be n v).length = n
  | 0, _ => rfl
  | n + 1, v => by simp [be, be_len n]
theorem be_bytes : ∀ (n : Nat) (v : Int), isBytes (be n v)
  | 0, _ => by intro z h; simp [be] at h
  | n + 1, v => by
    intro z h
    simp only [be, List.mem_append, List.mem_singleton] at h
    rcases h with h | h
    · exact be_bytes n _ z h
    · subst h; omega
theorem be_fold : ∀ (n : Nat) (v s : Int), 0 ≤ v → v < pw n → (be n v).foldl (fun s z => 256 * s + z) s = s * pw n + v
  | 0, v, s, h0, h1 => by
    simp only [pw] at h1 ⊢
    have : v = 0 := by omega
    subst this
    simp [be]
  | n + 1, v, s, h0, h1 => by
    simp only [pw] at h1 ⊢
    simp only [be, List.foldl_append, List.foldl_cons, List.foldl_nil]
    rw [be_fold n (v / 256) s (by omega) (by omega)]
    have e : s * (256 * pw n) = 256 * (s * pw n) := by rw [← Int.mul_assoc, Int.mul_comm s 256, Int.mul_assoc]
    rw [e]
    omega

theorem getL_fold (us : List Int) : ∀ (k i : Nat) (x : Nat) (s : Int), x + i + k ≤ us.length → getL us x k i s = ((us.drop (x + i)).take k).foldl (fun s z => 256 * s + z) s
  | 0, i, x, s, h => by simp [getL]
  | k + 1, i, x, s, h => by
    rw [getL, getL_fold us k (i + 1) x _ (by omega)]
    have e : us.drop (x + i) = us[x + i]'(by omega) :: us.drop (x + i + 1) := List.drop_eq_getElem_cons (by omega)
    rw [e, List.take_succ_cons, List.foldl_cons, List.getD_eq_getElem?_getD, List.getElem?_eq_getElem (by omega)]
    rfl
theorem getL_cut (us : List Int) (x k : Nat) (h : x + k ≤ us.length) : getL us x k 0 0 = (cut us x k).foldl (fun s z => 256 * s + z) 0 := getL_fold us k 0 x 0 (by omega)
theorem be_val (n : Nat) (v : Int) (h0 : 0 ≤ v) (h1 : v < pw n) : (be n v).foldl (fun s z => 256 * s + z) 0 = v := by
  rw [be_fold n v 0 h0 h1]; omega

/-! Lists cut into pieces. -/
theorem split3 (zs : List Int) (pl n : Nat) (h : pl + n ≤ zs.length) : zs = zs.take pl ++ (cut zs pl n ++ zs.drop (pl + n)) := by
  rw [cut, ← List.drop_drop, List.take_append_drop, List.take_append_drop]
theorem lay_app (a b c ys : List Int) (x : Nat) (hx : x = a.length) (hy : ys.length = b.length) : lay (a ++ (b ++ c)) x ys = a ++ (ys ++ c) := by
  subst hx
  simp only [lay]
  rw [List.take_left, hy, List.append_assoc]
  congr 2
  rw [← List.append_assoc, ← List.length_append, List.drop_left]
theorem lay_sub (a b c ys : List Int) (x y : Nat) (hx : x = a.length + y) (hy : y + ys.length ≤ b.length) : lay (a ++ (b ++ c)) x ys = a ++ (lay b y ys ++ c) := by
  have e := split3 b y ys.length hy
  have e1 : lay (a ++ (b ++ c)) x ys = (a ++ b.take y) ++ (ys ++ (b.drop (y + ys.length) ++ c)) := by
    have h1 : a ++ (b ++ c) = (a ++ b.take y) ++ (cut b y ys.length ++ (b.drop (y + ys.length) ++ c)) := by
      conv => lhs; rw [e]
      simp only [List.append_assoc]
    rw [h1]
    refine lay_app _ _ _ _ _ ?_ ?_
    · simp; omega
    · simp [cut]; omega
  rw [e1, lay]
  simp only [List.append_assoc]
theorem lay_two (a b ys : List Int) (x : Nat) (hx : x = a.length) (hy : ys.length ≤ b.length) : lay (a ++ b) x ys = a ++ lay b 0 ys := by
  have := lay_sub a b [] ys x 0 (by omega) (by omega)
  simpa using this
theorem cut_app (a b c : List Int) (x n : Nat) (hx : x = a.length) (hn : n = b.length) : cut (a ++ (b ++ c)) x n = b := by
  subst hx hn
  simp [cut]
theorem cut_sub (a b c : List Int) (x y n : Nat) (hx : x = a.length + y) (hn : y + n ≤ b.length) : cut (a ++ (b ++ c)) x n = cut b y n := by
  have e := split3 b y n hn
  have h1 : a ++ (b ++ c) = (a ++ b.take y) ++ (cut b y n ++ (b.drop (y + n) ++ c)) := by
    conv => lhs; rw [e]
    simp only [List.append_assoc]
  rw [h1]
  refine cut_app _ _ _ _ _ ?_ ?_
  · simp; omega
  · simp [cut]; omega

theorem putL_lay : ∀ (k : Nat) (zs : List Int) (x : Nat) (v : Int), x + k ≤ zs.length → putL zs x k v = lay zs x (be k v)
  | 0, zs, x, v, h => by simp [putL, lay, be]
  | k + 1, zs, x, v, h => by
    rw [putL, putL_lay k _ x _ (by simp; omega)]
    have e := split3 zs x k (by omega)
    have hd : zs.drop (x + k) = zs[x + k]'(by omega) :: zs.drop (x + k + 1) := List.drop_eq_getElem_cons (by omega)
    have e1 : zs.set (x + k) (v % 256) = zs.take x ++ (cut zs x k ++ (v % 256 :: zs.drop (x + k + 1))) := by
      conv => lhs; rw [e, hd]
      rw [← List.append_assoc, List.set_append_right _ _ (by simp [cut]; omega), List.append_assoc]
      congr 2
      have : x + k - (zs.take x ++ cut zs x k).length = 0 := by simp [cut]; omega
      rw [this]; rfl
    have l1 : (cut zs x k).length = k := by simp [cut]; omega
    rw [e1, lay_app _ _ _ _ _ (by simp; omega) (by rw [be_len, l1])]
    have e2 : zs = zs.take x ++ ((cut zs x k ++ [zs[x + k]'(by omega)]) ++ zs.drop (x + k + 1)) := by
      conv => lhs; rw [e, hd]
      simp
    conv => rhs; rw [e2]
    rw [lay_app _ _ _ _ _ (by simp; omega) (by simp [be_len, l1])]
    simp [be]

/-- Bytes lie at a place. -/
structure Lies (zs : List Int) (pl : Nat) (bs : List Int) : Prop where
  eq : cut zs pl bs.length = bs
  le : pl + bs.length ≤ zs.length
theorem Lies.app {zs : List Int} {pl : Nat} {bs : List Int} (h : Lies zs pl bs) : zs = zs.take pl ++ (bs ++ zs.drop (pl + bs.length)) ∧ (zs.take pl).length = pl := by
  have h1 := split3 zs pl bs.length h.le
  rw [h.eq] at h1
  have := h.le
  exact ⟨h1, by simp; omega⟩
theorem lies_lay {zs : List Int} {pl : Nat} {bs : List Int} (h : pl + bs.length ≤ zs.length) : Lies (lay zs pl bs) pl bs := by
  refine ⟨?_, by rw [length_lay h]; exact h⟩
  rw [lay, List.append_assoc]
  exact cut_app _ _ _ _ _ (by simp; omega) rfl
theorem lay_same {zs : List Int} {pl : Nat} {bs : List Int} (h : Lies zs pl bs) : lay zs pl bs = zs := by
  obtain ⟨h1, h2⟩ := h.app
  rw [lay, List.append_assoc]
  exact h1.symm
theorem lay_lay (zs : List Int) (pl : Nat) (a b : List Int) (h : pl + a.length ≤ zs.length) (hl : b.length = a.length) : lay (lay zs pl a) pl b = lay zs pl b := by
  conv => lhs; arg 1; rw [lay, List.append_assoc]
  rw [lay_app _ _ _ _ _ (by simp; omega) hl, lay, hl, List.append_assoc]
/-- A part of what lies is laid over. -/
theorem lay_part (zs : List Int) (pl : Nat) (bs : List Int) (h : pl + bs.length ≤ zs.length) (x : Nat) (ys : List Int) (hx : x + ys.length ≤ bs.length) : lay (lay zs pl bs) (pl + x) ys = lay zs pl (lay bs x ys) := by
  conv => lhs; arg 1; rw [lay, List.append_assoc]
  rw [lay_sub _ _ _ _ _ x (by simp; omega) hx]
  conv => rhs; rw [lay, length_lay hx, List.append_assoc]
theorem Lies.part {zs : List Int} {pl : Nat} {bs : List Int} (h : Lies zs pl bs) (x : Nat) (ys : List Int) (hx : x + ys.length ≤ bs.length) : lay zs (pl + x) ys = lay zs pl (lay bs x ys) := by
  have := lay_part zs pl bs h.le x ys hx
  rwa [lay_same h] at this
theorem Lies.cutE {zs : List Int} {pl : Nat} {bs : List Int} (h : Lies zs pl bs) (x n : Nat) (hx : x + n ≤ bs.length) : cut zs (pl + x) n = cut bs x n := by
  obtain ⟨h1, h2⟩ := h.app
  conv => lhs; rw [h1]
  exact cut_sub _ _ _ _ _ _ (by rw [h2]) hx
theorem cut_far (zs : List Int) (pl : Nat) (bs : List Int) (h : pl + bs.length ≤ zs.length) (x n : Nat) (hx : x + n ≤ pl ∨ pl + bs.length ≤ x) : cut (lay zs pl bs) x n = cut zs x n := by
  rcases hx with hx | hx
  · have e := split3 (zs.take pl) x n (by simp; omega)
    have l1 : (cut (zs.take pl) x n).length = n := by simp [cut]; omega
    have l2 : ((zs.take pl).take x).length = x := by simp; omega
    rw [lay, List.append_assoc]
    conv => lhs; arg 1; arg 1; rw [e]
    conv => rhs; arg 1; rw [← List.take_append_drop pl zs]; arg 1; rw [e]
    simp only [List.append_assoc]
    rw [cut_app _ _ _ _ _ l2.symm l1.symm, cut_app _ _ _ _ _ l2.symm l1.symm]
  · simp only [cut]
    congr 1
    rw [lay, List.drop_append, List.drop_eq_nil_of_le (by simp; omega), List.nil_append, List.drop_drop]
    congr 1
    simp; omega

/-- The numbers of the pieces' lengths. -/
def lens (L : List (List Int)) : List Nat := L.map List.length
theorem lens_flat : ∀ L : List (List Int), L.flatten.length = (lens L).sum
  | [] => rfl
  | a :: L => by simp [lens]
theorem lay_seg : ∀ (L : List (List Int)) (i : Nat) (s ys : List Int), L[i]? = some s → ys.length = s.length → lay L.flatten ((lens L).take i).sum ys = (L.set i ys).flatten
  | [], i, s, ys, h, _ => by simp at h
  | a :: L, 0, s, ys, h, hl => by
    simp at h
    subst h
    have := lay_app [] a L.flatten ys 0 rfl hl
    simpa using this
  | a :: L, i + 1, s, ys, h, hl => by
    simp only [List.getElem?_cons_succ] at h
    have ih := lay_seg L i s ys h hl
    have hlt : i < L.length := (List.getElem?_eq_some_iff.1 h).1
    have hle : ((lens L).take i).sum + ys.length ≤ L.flatten.length := by
      rw [lens_flat]
      have h1 : (lens L) = (lens L).take i ++ (lens L).drop i := (List.take_append_drop _ _).symm
      have h2 : (lens L).drop i = s.length :: (lens L).drop (i + 1) := by
        rw [List.drop_eq_getElem_cons (by simp [lens]; exact hlt)]
        congr 1
        simp only [lens, List.getElem_map]
        congr 1
        exact (List.getElem?_eq_some_iff.1 h).2
      conv => rhs; rw [h1, h2]
      simp; omega
    have := lay_sub a L.flatten [] ys (a.length + ((lens L).take i).sum) _ rfl hle
    simp only [List.append_nil] at this
    simp only [lens, List.map_cons, List.take_succ_cons, List.sum_cons, List.flatten_cons, List.set_cons_succ]
    simp only [lens] at ih this
    rw [this, ih]
theorem cut_seg : ∀ (L : List (List Int)) (i : Nat) (s : List Int), L[i]? = some s → cut L.flatten ((lens L).take i).sum s.length = s
  | [], i, s, h => by simp at h
  | a :: L, 0, s, h => by
    simp at h
    subst h
    have := cut_app [] a L.flatten 0 a.length rfl rfl
    simpa using this
  | a :: L, i + 1, s, h => by
    simp only [List.getElem?_cons_succ] at h
    have ih := cut_seg L i s h
    have hlt : i < L.length := (List.getElem?_eq_some_iff.1 h).1
    simp only [lens, List.map_cons, List.take_succ_cons, List.sum_cons, List.flatten_cons]
    simp only [lens] at ih
    have hd : ∀ (u v : List Int) (x n : Nat), cut (u ++ v) (u.length + x) n = cut v x n := by
      intro u v x n
      simp [cut, ← List.drop_drop]
    rw [hd, ih]
/-- Bytes in pieces. -/
def pieces : List Nat → List Int → List (List Int)
  | [], _ => []
  | n :: ns, zs => zs.take n :: pieces ns (zs.drop n)
theorem pieces_lens : ∀ (ns : List Nat) (zs : List Int), ns.sum ≤ zs.length → lens (pieces ns zs) = ns
  | [], _, _ => rfl
  | n :: ns, zs, h => by
    simp only [List.sum_cons] at h
    have := pieces_lens ns (zs.drop n) (by simp; omega)
    simp only [lens] at this
    simp only [lens, pieces, List.map_cons, this]
    congr 1
    simp; omega
theorem pieces_flat : ∀ (ns : List Nat) (zs : List Int), zs.length = ns.sum → (pieces ns zs).flatten = zs
  | [], zs, h => by simp at h; simp [pieces, h]
  | n :: ns, zs, h => by
    simp only [List.sum_cons] at h
    simp only [pieces, List.flatten_cons]
    rw [pieces_flat ns _ (by simp; omega), List.take_append_drop]
theorem lies_pieces (zs : List Int) (pl : Nat) (ns : List Nat) (h : pl + ns.sum ≤ zs.length) : Lies zs pl (pieces ns (cut zs pl ns.sum)).flatten := by
  have l1 : (cut zs pl ns.sum).length = ns.sum := by simp [cut]; omega
  rw [pieces_flat ns _ l1]
  exact ⟨by rw [l1], by rw [l1]; exact h⟩

end Go.Proofs.Ytgldbdfadjmfeaa
