import Derived.Test.YtjkdflnnpdionaaGreatMf
/-
  Lay.
-/
namespace Go.Proofs.YtjkdflnnpdionaaGreat
open Go.RowKit
set_option linter.unusedVariables false

/-- What a chunk with an item holds. -/
structure It where
  l0 : Int
  l1 : Int
  l2 : Int
  gn : Int
  ex : Int
  to : Int
  tk : Int
  fl : Int
  st : Int
  ms : Int
  cl : Int
  key : List Int
  val : List Int
def It.L (t : It) : List (List Int) := [be 4 t.l0, be 4 t.l1, be 4 t.l2, be 4 t.gn, be 8 t.ex, be 8 t.to, be 8 t.tk, be 4 t.fl, be 1 t.key.length, be 1 t.st, be 1 t.ms, be 1 t.cl, be 4 t.val.length, be 4 0, t.key, t.val, be 2 3338]
theorem It.lens (t : It) : YtjkdflnnpdionaaGreat.lens t.L = ns t.key.length t.val.length := by simp [YtjkdflnnpdionaaGreat.lens, It.L, ns, be_len]
theorem It.len (t : It) : t.L.flatten.length = 58 + t.key.length + t.val.length := by rw [lens_flat, It.lens, ns_sum]

theorem fill_pieces {zs : List Int} {pl k v cap : Nat} (hle : pl + cap ≤ zs.length) (hcap : 58 + k + v ≤ cap) (x0 x1 x2 : List Int) (R : List (List Int)) (hL : lens (x0 :: x1 :: x2 :: R) = ns k v) :
    lay (lay zs pl (x0 :: x1 :: x2 :: R).flatten) pl (List.replicate 12 0) = lay zs pl (be 4 0 :: be 4 0 :: be 4 0 :: R).flatten := by
  have hfl : (x0 :: x1 :: x2 :: R).flatten.length = 58 + k + v := by rw [lens_flat, hL, ns_sum]
  have h := lay_part zs pl (x0 :: x1 :: x2 :: R).flatten (by omega) 0 (List.replicate 12 0) (by simp; simp at hfl; omega)
  rw [Nat.add_zero] at h
  rw [h]
  have hl : x0.length = 4 ∧ x1.length = 4 ∧ x2.length = 4 := by
    simp only [lens, List.map_cons, ns, List.cons.injEq] at hL
    exact ⟨hL.1, hL.2.1, hL.2.2.1⟩
  have h2 := lay_app [] (x0 ++ x1 ++ x2) R.flatten (List.replicate 12 0) 0 rfl (by simp; omega)
  have e : (List.replicate 12 0 : List Int) = be 4 0 ++ (be 4 0 ++ be 4 0) := by decide
  simp only [List.nil_append, List.append_assoc] at h2
  simp only [List.flatten_cons]
  rw [h2, e]
  simp only [List.append_assoc]
theorem fill_lens {k v : Nat} (x0 x1 x2 : List Int) (R : List (List Int)) (hL : lens (x0 :: x1 :: x2 :: R) = ns k v) : lens (be 4 0 :: be 4 0 :: be 4 0 :: R) = ns k v := by
  simp only [lens, List.map_cons, ns, List.cons.injEq, be_len] at hL ⊢
  exact ⟨trivial, trivial, trivial, hL.2.2.2⟩
/-- A chunk's bytes in pieces. -/
theorem in_pieces {zs : List Int} {pl k v : Nat} (hle : pl + (58 + k + v) ≤ zs.length) (gn : Int) (hg : cut zs (pl + 12) 4 = be 4 gn) : ∃ x0 x1 x2 x4 x5 x6 x7 x8 x9 x10 x11 x12 x13 x14 x15 x16, lens [x0, x1, x2, be 4 gn, x4, x5, x6, x7, x8, x9, x10, x11, x12, x13, x14, x15, x16] = ns k v ∧ lay zs pl [x0, x1, x2, be 4 gn, x4, x5, x6, x7, x8, x9, x10, x11, x12, x13, x14, x15, x16].flatten = zs := by
  have h1 := lies_pieces zs pl (ns k v) (by rw [ns_sum]; exact hle)
  have h2 := pieces_lens (ns k v) (cut zs pl (ns k v).sum) (by simp [cut]; rw [ns_sum]; omega)
  obtain ⟨x0, x1, x2, x3, x4, x5, x6, x7, x8, x9, x10, x11, x12, x13, x14, x15, x16, e⟩ : ∃ x0 x1 x2 x3 x4 x5 x6 x7 x8 x9 x10 x11 x12 x13 x14 x15 x16, pieces (ns k v) (cut zs pl (ns k v).sum) = [x0, x1, x2, x3, x4, x5, x6, x7, x8, x9, x10, x11, x12, x13, x14, x15, x16] := ⟨_, _, _, _, _, _, _, _, _, _, _, _, _, _, _, _, _, rfl⟩
  rw [e] at h1 h2
  have h3 := cut_seg _ 3 x3 (show [x0, x1, x2, x3, x4, x5, x6, x7, x8, x9, x10, x11, x12, x13, x14, x15, x16][3]? = some x3 from rfl)
  rw [h2] at h3
  have hl3 : x3.length = 4 := by
    simp only [lens, List.map_cons, ns, List.cons.injEq] at h2
    exact h2.2.2.2.1
  have hs : ((ns k v).take 3).sum = 12 := rfl
  have hfl := lens_flat [x0, x1, x2, x3, x4, x5, x6, x7, x8, x9, x10, x11, x12, x13, x14, x15, x16]
  rw [h2, ns_sum] at hfl
  rw [hs, hl3, ← h1.cutE 12 4 (by omega), hg] at h3
  subst h3
  exact ⟨x0, x1, x2, x4, x5, x6, x7, x8, x9, x10, x11, x12, x13, x14, x15, x16, h2, lay_same h1⟩

/-- Where Lay stands. -/
structure LW (w : World) (ib cb ab ag pl op s : Nat) (ic : Array Value) (W : World) : Prop where
  gr : w.grownBy W (some ag)
  bi : Box W 129 ib ic
  bc : Box W 217 cb #[.pointer (some ⟨ab, 0, none⟩), .int .i64 pl, .int .i64 op, .int .i64 s]
  ni : ib ≠ ag
  nc : cb ≠ ag
theorem LW.step {w : World} {ib cb ab ag pl op s : Nat} {ic : Array Value} {W W' : World} (h : LW w ib cb ab ag pl op s ic W) (hf : W.grownBy W' (some ag)) : LW w ib cb ab ag pl op s ic W' :=
  ⟨gb_trans h.gr hf, h.bi.kept hf (by simpa using h.ni), h.bc.kept hf (by simpa using h.nc), h.ni, h.nc⟩
theorem LW.cc {w : World} {ib cb ab ag pl op s : Nat} {ic : Array Value} {W : World} (h : LW w ib cb ab ag pl op s ic W) : W.cell? ⟨cb, 0, none⟩ = some (.pointer (some ⟨ab, 0, none⟩)) ∧ W.cell? ⟨cb, 1, none⟩ = some (.int .i64 pl) ∧ W.cell? ⟨cb, 2, none⟩ = some (.int .i64 op) ∧ W.cell? ⟨cb, 3, none⟩ = some (.int .i64 s) :=
  ⟨h.bc.cell 0, h.bc.cell 1, h.bc.cell 2, h.bc.cell 3⟩
theorem LW.ic {w : World} {ib cb ab ag pl op s : Nat} {x0 x1 x2 x3 x4 x5 x6 x7 : Value} {W : World} (h : LW w ib cb ab ag pl op s #[x0, x1, x2, x3, x4, x5, x6, x7] W) : W.cell? ⟨ib, 0, none⟩ = some x0 ∧ W.cell? ⟨ib, 1, none⟩ = some x1 ∧ W.cell? ⟨ib, 2, none⟩ = some x2 ∧ W.cell? ⟨ib, 3, none⟩ = some x3 ∧ W.cell? ⟨ib, 4, none⟩ = some x4 ∧ W.cell? ⟨ib, 5, none⟩ = some x5 ∧ W.cell? ⟨ib, 6, none⟩ = some x6 ∧ W.cell? ⟨ib, 7, none⟩ = some x7 :=
  ⟨h.bi.cell 0, h.bi.cell 1, h.bi.cell 2, h.bi.cell 3, h.bi.cell 4, h.bi.cell 5, h.bi.cell 6, h.bi.cell 7⟩

section
variable {w : World} {sb : Nat} {F : Nat → Prop} {B : Bl} {b c d e f g : Int} {A : Ab} {zs : List Int}

set_option maxRecDepth 100000 in
set_option maxHeartbeats 8000000 in
theorem lay_yes (h : IsS w sb F B b c d e f g A zs) (hA : Fit2 A) {H p k : Nat} (hH : IsH A H p k) (ka : Option Addr) (kn kc : Nat) (va : Option Addr) (vn vc : Nat) (fl ex to tk st mk : Int) (key val : List Int) (hk : Has w ka kn key) (hv : Has w va vn val) (hkb : isBytes key) (hvb : isBytes val) (hka : ∀ x, ka.map (·.block) = some x → x ≠ B.ag) (hva : ∀ x, va.map (·.block) = some x → x ≠ B.ag)
    (hl : LegalP key) (hfit : 58 + kn + vn ≤ A.sz (A.own p)) (hb : Bnd fl ex to st mk) (htk : 0 ≤ tk ∧ tk < 18446744073709551616) (gn : Int) (hgn : cut zs (A.place p k + 12) 4 = be 4 gn) :
    Calls Tryz.prog 72 #[.pointer (some ⟨sb, 0, none⟩), .int .u64 H, itV ka kn kc va vn vc fl ex to tk st mk] w fun y w' => y = .returned (.int .i64 0) ∧ IsS w' sb F B b c d e f g A (lay zs (A.place p k) (It.L ⟨0, 0, 0, gn, ex, to, tk, fl, st, mk, A.own p, key, val⟩).flatten) ∧ w.grownBy w' (some B.ag) := by
  have hP := pl_of h hA.toFit1 hH.hp hH.hk
  have hon := hA.on p hH.hp
  have hn2 := hA.n2
  have hPb := hP.hb
  have hPle := hP.le
  have hkn := hk.1
  have hvn := hv.1
  have hk250 : kn ≤ 250 := by have := hl.2.1; omega
  obtain ⟨x0, x1, x2, x4, x5, x6, x7, x8, x9, x10, x11, x12, x13, x14, x15, x16, hL0, hz0⟩ := in_pieces (k := kn) (v := vn) (by omega) gn hgn
  have hal := World.grownBy_alloc w (.cells #[.slice ka kn kc, .slice va vn vc, .int .u64 fl, .int .i64 ex, .int .i64 to, .int .u64 tk, .int .i64 st, .int .i64 mk] 129) none
  have hop := (open_yes (h.kept0 hal) hA hH).mono (R' := fun y w' => y = .returned (.tuple #[chV B.ab (A.place p k) (A.own p) (A.sz (A.own p)), .int .i64 0]) ∧ w.grownBy w' none ∧ Box w' 129 w.heap.size #[.slice ka kn kc, .slice va vn vc, .int .u64 fl, .int .i64 ex, .int .i64 to, .int .u64 tk, .int .i64 st, .int .i64 mk]) (by
    rintro y w' ⟨rfl, hf⟩
    exact ⟨rfl, gb_trans hal hf, (Box.new _ _ _).kept hf (by simp)⟩)
  have hsz := size_84 kn vn (by omega) (by omega)
  have hmb := mayBeLaid_yes ka kn kc va vn vc fl ex to tk st mk hb
  have hlg := fun W (hW : w.grownBy W none) => legal_yes (hk.kept0 hW) hl kc
  have hkk := fun W (hW : w.grownBy W (some B.ag)) => hk.kept hW (fun x hx => by have := hka x hx; simpa using this)
  have hvk := fun W (hW : w.grownBy W (some B.ag)) => hv.kept hW (fun x hx => by have := hva x hx; simpa using this)
  have hag := h.lt _ h.fa.2
  have HFIN : Hid (∀ W', w.grownBy W' (some B.ag) → IsA W' B.ab B.ag A.ps A.m (lay zs (A.place p k) (It.L ⟨0, 0, 0, gn, ex, to, tk, fl, st, mk, A.own p, key, val⟩).flatten) → IsS W' sb F B b c d e f g A (lay zs (A.place p k) (It.L ⟨0, 0, 0, gn, ex, to, tk, fl, st, mk, A.own p, key, val⟩).flatten)) := fun W' h1 h2 => (h.bytes h1 h2).1
  have hAr := h.ar
  have hfl := fun W (hW : IsA W B.ab B.ag A.ps A.m zs) => (fill_yes hW ((A.place p k : Nat) : Int) 12 0 (by omega) (by have := hP.th 0 12 (by omega); simpa using this)).mono (R' := fun y w' => y = .returned (.int .i64 0) ∧ W.grownBy w' (some B.ag) ∧ IsA w' B.ab B.ag A.ps A.m (lay zs (A.place p k) [be 4 0, be 4 0, be 4 0, be 4 gn, x4, x5, x6, x7, x8, x9, x10, x11, x12, x13, x14, x15, x16].flatten)) (by
    rintro y w' ⟨rfl, hf, hA1⟩
    rw [Int.toNat_natCast] at hA1
    have e := fill_pieces hPle hfit x0 x1 x2 _ hL0
    rw [hz0] at e
    rw [show ((12 : Int).toNat) = 12 from rfl, e] at hA1
    exact ⟨rfl, hf, hA1⟩)
  have hM1 := fill_lens x0 x1 x2 _ hL0
  have hp1 := fun W (hW : IsA W B.ab B.ag A.ps A.m (lay zs (A.place p k) [be 4 0, be 4 0, be 4 0, be 4 gn, x4, x5, x6, x7, x8, x9, x10, x11, x12, x13, x14, x15, x16].flatten)) => sput_u64 hP hfit hM1 hW (A.own p) (A.sz (A.own p)) 4 16 ex (by have := hb.e; omega) rfl rfl
  have hM2 : lens [be 4 0, be 4 0, be 4 0, be 4 gn, be 8 ex, x5, x6, x7, x8, x9, x10, x11, x12, x13, x14, x15, x16] = ns kn vn := (lens_set _ 4 (be 8 ex) (by rw [hM1, be_len]; simp [ns])).trans hM1
  simp only [List.set_cons_succ, List.set_cons_zero, show ((16 : Nat) : Int) = 16 from rfl] at hp1
  have hp2 := fun W (hW : IsA W B.ab B.ag A.ps A.m (lay zs (A.place p k) [be 4 0, be 4 0, be 4 0, be 4 gn, be 8 ex, x5, x6, x7, x8, x9, x10, x11, x12, x13, x14, x15, x16].flatten)) => sput_u64 hP hfit hM2 hW (A.own p) (A.sz (A.own p)) 5 24 to (by have := hb.t; omega) rfl rfl
  have hM3 : lens [be 4 0, be 4 0, be 4 0, be 4 gn, be 8 ex, be 8 to, x6, x7, x8, x9, x10, x11, x12, x13, x14, x15, x16] = ns kn vn := (lens_set _ 5 (be 8 to) (by rw [hM2, be_len]; simp [ns])).trans hM2
  simp only [List.set_cons_succ, List.set_cons_zero, show ((24 : Nat) : Int) = 24 from rfl] at hp2
  have hp3 := fun W (hW : IsA W B.ab B.ag A.ps A.m (lay zs (A.place p k) [be 4 0, be 4 0, be 4 0, be 4 gn, be 8 ex, be 8 to, x6, x7, x8, x9, x10, x11, x12, x13, x14, x15, x16].flatten)) => sput_u64 hP hfit hM3 hW (A.own p) (A.sz (A.own p)) 6 32 tk htk rfl rfl
  have hM4 : lens [be 4 0, be 4 0, be 4 0, be 4 gn, be 8 ex, be 8 to, be 8 tk, x7, x8, x9, x10, x11, x12, x13, x14, x15, x16] = ns kn vn := (lens_set _ 6 (be 8 tk) (by rw [hM3, be_len]; simp [ns])).trans hM3
  simp only [List.set_cons_succ, List.set_cons_zero, show ((32 : Nat) : Int) = 32 from rfl] at hp3
  have hp4 := fun W (hW : IsA W B.ab B.ag A.ps A.m (lay zs (A.place p k) [be 4 0, be 4 0, be 4 0, be 4 gn, be 8 ex, be 8 to, be 8 tk, x7, x8, x9, x10, x11, x12, x13, x14, x15, x16].flatten)) => sput_u32 hP hfit hM4 hW (A.own p) (A.sz (A.own p)) 7 40 fl (by have := hb.f; omega) rfl rfl
  have hM5 : lens [be 4 0, be 4 0, be 4 0, be 4 gn, be 8 ex, be 8 to, be 8 tk, be 4 fl, x8, x9, x10, x11, x12, x13, x14, x15, x16] = ns kn vn := (lens_set _ 7 (be 4 fl) (by rw [hM4, be_len]; simp [ns])).trans hM4
  simp only [List.set_cons_succ, List.set_cons_zero, show ((40 : Nat) : Int) = 40 from rfl] at hp4
  have hp5 := fun W (hW : IsA W B.ab B.ag A.ps A.m (lay zs (A.place p k) [be 4 0, be 4 0, be 4 0, be 4 gn, be 8 ex, be 8 to, be 8 tk, be 4 fl, x8, x9, x10, x11, x12, x13, x14, x15, x16].flatten)) => sput_u8 hP hfit hM5 hW (A.own p) (A.sz (A.own p)) 8 44 kn (by omega) rfl rfl
  have hM6 : lens [be 4 0, be 4 0, be 4 0, be 4 gn, be 8 ex, be 8 to, be 8 tk, be 4 fl, be 1 kn, x9, x10, x11, x12, x13, x14, x15, x16] = ns kn vn := (lens_set _ 8 (be 1 kn) (by rw [hM5, be_len]; simp [ns])).trans hM5
  simp only [List.set_cons_succ, List.set_cons_zero, show ((44 : Nat) : Int) = 44 from rfl] at hp5
  have hp6 := fun W (hW : IsA W B.ab B.ag A.ps A.m (lay zs (A.place p k) [be 4 0, be 4 0, be 4 0, be 4 gn, be 8 ex, be 8 to, be 8 tk, be 4 fl, be 1 kn, x9, x10, x11, x12, x13, x14, x15, x16].flatten)) => sput_u8 hP hfit hM6 hW (A.own p) (A.sz (A.own p)) 9 45 st (by have := hb.s; omega) rfl rfl
  have hM7 : lens [be 4 0, be 4 0, be 4 0, be 4 gn, be 8 ex, be 8 to, be 8 tk, be 4 fl, be 1 kn, be 1 st, x10, x11, x12, x13, x14, x15, x16] = ns kn vn := (lens_set _ 9 (be 1 st) (by rw [hM6, be_len]; simp [ns])).trans hM6
  simp only [List.set_cons_succ, List.set_cons_zero, show ((45 : Nat) : Int) = 45 from rfl] at hp6
  have hp7 := fun W (hW : IsA W B.ab B.ag A.ps A.m (lay zs (A.place p k) [be 4 0, be 4 0, be 4 0, be 4 gn, be 8 ex, be 8 to, be 8 tk, be 4 fl, be 1 kn, be 1 st, x10, x11, x12, x13, x14, x15, x16].flatten)) => sput_u8 hP hfit hM7 hW (A.own p) (A.sz (A.own p)) 10 46 mk (by have := hb.m; omega) rfl rfl
  have hM8 : lens [be 4 0, be 4 0, be 4 0, be 4 gn, be 8 ex, be 8 to, be 8 tk, be 4 fl, be 1 kn, be 1 st, be 1 mk, x11, x12, x13, x14, x15, x16] = ns kn vn := (lens_set _ 10 (be 1 mk) (by rw [hM7, be_len]; simp [ns])).trans hM7
  simp only [List.set_cons_succ, List.set_cons_zero, show ((46 : Nat) : Int) = 46 from rfl] at hp7
  have hp8 := fun W (hW : IsA W B.ab B.ag A.ps A.m (lay zs (A.place p k) [be 4 0, be 4 0, be 4 0, be 4 gn, be 8 ex, be 8 to, be 8 tk, be 4 fl, be 1 kn, be 1 st, be 1 mk, x11, x12, x13, x14, x15, x16].flatten)) => sput_u8 hP hfit hM8 hW (A.own p) (A.sz (A.own p)) 11 47 (A.own p) (by omega) rfl rfl
  have hM9 : lens [be 4 0, be 4 0, be 4 0, be 4 gn, be 8 ex, be 8 to, be 8 tk, be 4 fl, be 1 kn, be 1 st, be 1 mk, be 1 (A.own p), x12, x13, x14, x15, x16] = ns kn vn := (lens_set _ 11 (be 1 (A.own p)) (by rw [hM8, be_len]; simp [ns])).trans hM8
  simp only [List.set_cons_succ, List.set_cons_zero, show ((47 : Nat) : Int) = 47 from rfl] at hp8
  have hp9 := fun W (hW : IsA W B.ab B.ag A.ps A.m (lay zs (A.place p k) [be 4 0, be 4 0, be 4 0, be 4 gn, be 8 ex, be 8 to, be 8 tk, be 4 fl, be 1 kn, be 1 st, be 1 mk, be 1 (A.own p), x12, x13, x14, x15, x16].flatten)) => sput_u32 hP hfit hM9 hW (A.own p) (A.sz (A.own p)) 13 52 0 (by omega) rfl rfl
  have hM10 : lens [be 4 0, be 4 0, be 4 0, be 4 gn, be 8 ex, be 8 to, be 8 tk, be 4 fl, be 1 kn, be 1 st, be 1 mk, be 1 (A.own p), x12, be 4 0, x14, x15, x16] = ns kn vn := (lens_set _ 13 (be 4 0) (by rw [hM9, be_len]; simp [ns])).trans hM9
  simp only [List.set_cons_succ, List.set_cons_zero, show ((52 : Nat) : Int) = 52 from rfl] at hp9
  have hp10 := fun W (hW : IsA W B.ab B.ag A.ps A.m (lay zs (A.place p k) [be 4 0, be 4 0, be 4 0, be 4 gn, be 8 ex, be 8 to, be 8 tk, be 4 fl, be 1 kn, be 1 st, be 1 mk, be 1 (A.own p), x12, be 4 0, x14, x15, x16].flatten)) (hh : Has W ka kn key) => swrite hP hfit hM10 hW (A.own p) (A.sz (A.own p)) 14 56 ka kn kc key hh hkb rfl rfl
  have hM11 : lens [be 4 0, be 4 0, be 4 0, be 4 gn, be 8 ex, be 8 to, be 8 tk, be 4 fl, be 1 kn, be 1 st, be 1 mk, be 1 (A.own p), x12, be 4 0, key, x15, x16] = ns kn vn := (lens_set _ 14 key (by rw [hM10, hkn]; intro n hn; simp [ns] at hn; omega)).trans hM10
  simp only [List.set_cons_succ, List.set_cons_zero, show ((56 : Nat) : Int) = 56 from rfl] at hp10
  have hp11 := fun W (hW : IsA W B.ab B.ag A.ps A.m (lay zs (A.place p k) [be 4 0, be 4 0, be 4 0, be 4 gn, be 8 ex, be 8 to, be 8 tk, be 4 fl, be 1 kn, be 1 st, be 1 mk, be 1 (A.own p), x12, be 4 0, key, x15, x16].flatten)) (hh : Has W va vn val) => layValue_99 hP hfit hM11 hW (A.own p) (A.sz (A.own p)) va vc val hh hvb hva
  simp only [List.set_cons_succ, List.set_cons_zero] at hp11
  have hfin : [be 4 0, be 4 0, be 4 0, be 4 gn, be 8 ex, be 8 to, be 8 tk, be 4 fl, be 1 kn, be 1 st, be 1 mk, be 1 (A.own p), be 4 vn, be 4 0, key, val, be 2 3338] = It.L ⟨0, 0, 0, gn, ex, to, tk, fl, st, mk, A.own p, key, val⟩ := by simp [It.L, hkn, hvn]
  rw [hfin] at hp11
  clear hfin
  generalize lay zs (A.place p k) [be 4 0, be 4 0, be 4 0, be 4 gn, x4, x5, x6, x7, x8, x9, x10, x11, x12, x13, x14, x15, x16].flatten = z1 at *
  generalize lay zs (A.place p k) [be 4 0, be 4 0, be 4 0, be 4 gn, be 8 ex, x5, x6, x7, x8, x9, x10, x11, x12, x13, x14, x15, x16].flatten = z2 at *
  generalize lay zs (A.place p k) [be 4 0, be 4 0, be 4 0, be 4 gn, be 8 ex, be 8 to, x6, x7, x8, x9, x10, x11, x12, x13, x14, x15, x16].flatten = z3 at *
  generalize lay zs (A.place p k) [be 4 0, be 4 0, be 4 0, be 4 gn, be 8 ex, be 8 to, be 8 tk, x7, x8, x9, x10, x11, x12, x13, x14, x15, x16].flatten = z4 at *
  generalize lay zs (A.place p k) [be 4 0, be 4 0, be 4 0, be 4 gn, be 8 ex, be 8 to, be 8 tk, be 4 fl, x8, x9, x10, x11, x12, x13, x14, x15, x16].flatten = z5 at *
  generalize lay zs (A.place p k) [be 4 0, be 4 0, be 4 0, be 4 gn, be 8 ex, be 8 to, be 8 tk, be 4 fl, be 1 kn, x9, x10, x11, x12, x13, x14, x15, x16].flatten = z6 at *
  generalize lay zs (A.place p k) [be 4 0, be 4 0, be 4 0, be 4 gn, be 8 ex, be 8 to, be 8 tk, be 4 fl, be 1 kn, be 1 st, x10, x11, x12, x13, x14, x15, x16].flatten = z7 at *
  generalize lay zs (A.place p k) [be 4 0, be 4 0, be 4 0, be 4 gn, be 8 ex, be 8 to, be 8 tk, be 4 fl, be 1 kn, be 1 st, be 1 mk, x11, x12, x13, x14, x15, x16].flatten = z8 at *
  generalize lay zs (A.place p k) [be 4 0, be 4 0, be 4 0, be 4 gn, be 8 ex, be 8 to, be 8 tk, be 4 fl, be 1 kn, be 1 st, be 1 mk, be 1 (A.own p), x12, x13, x14, x15, x16].flatten = z9 at *
  generalize lay zs (A.place p k) [be 4 0, be 4 0, be 4 0, be 4 gn, be 8 ex, be 8 to, be 8 tk, be 4 fl, be 1 kn, be 1 st, be 1 mk, be 1 (A.own p), x12, be 4 0, x14, x15, x16].flatten = z10 at *
  generalize lay zs (A.place p k) [be 4 0, be 4 0, be 4 0, be 4 gn, be 8 ex, be 8 to, be 8 tk, be 4 fl, be 1 kn, be 1 st, be 1 mk, be 1 (A.own p), x12, be 4 0, key, x15, x16].flatten = z11 at *
  generalize lay zs (A.place p k) (It.L ⟨0, 0, 0, gn, ex, to, tk, fl, st, mk, A.own p, key, val⟩).flatten = zF at *
  clear hM1 hM2 hM3 hM4 hM5 hM6 hM7 hM8 hM9 hM10 hM11 hL0 hz0 hP h hH
  have hsb : A.sz (A.own p) ≤ 1048576 := hPb.2
  have hpb : A.place p k ≤ 1073741824 := hPb.1
  unfold chV at *
  generalize A.place p k = pl at *
  generalize A.sz (A.own p) = s at *
  generalize A.own p = op at *
  generalize B.ab = ab at *
  generalize B.ag = ag at *
  have hdf : decide ((s : Int) < ((58 + kn + vn : Nat) : Int)) = false := by simp; omega
  have hdf2 : decide (s < 58 + kn + vn) = false := by simp; omega
  have hwe : IntKind.u64.wrap ex = ex := by rw [IntKind.wrap_u64]; have := hb.e; omega
  have hwt : IntKind.u64.wrap to = to := by rw [IntKind.wrap_u64]; have := hb.t; omega
  have hwf : IntKind.u32.wrap fl = fl := by rw [IntKind.wrap_u32]; have := hb.f; omega
  have hwk : IntKind.u8.wrap (kn : Int) = kn := by rw [IntKind.wrap_u8]; omega
  have hws : IntKind.u8.wrap st = st := by rw [IntKind.wrap_u8]; have := hb.s; omega
  have hwm : IntKind.u8.wrap mk = mk := by rw [IntKind.wrap_u8]; have := hb.m; omega
  have hwo : IntKind.u8.wrap (op : Int) = op := by rw [IntKind.wrap_u8]; omega
  unfold itV at *
  go_enter Tryz.func72, Tryz.ntmps72
  go_wp2_with (first | (go_at_call 141; go_must (refine hop.mono ?_); rintro y w1 ⟨rfl, hf1, hbi1⟩; (have hs1 := hf1.size); (have hbl := hbi1.lt); (have hf2 : w.grownBy (w1.alloc (.cells #[.pointer (some ⟨ab, 0, none⟩), .int .i64 pl, .int .i64 op, .int .i64 s] 217)) none := gb_alloc hf1 _); (have hW : LW w w.heap.size w1.heap.size ab ag pl op s #[.slice ka kn kc, .slice va vn vc, .int .u64 fl, .int .i64 ex, .int .i64 to, .int .u64 tk, .int .i64 st, .int .i64 mk] (w1.alloc (.cells #[.pointer (some ⟨ab, 0, none⟩), .int .i64 pl, .int .i64 op, .int .i64 s] 217)) := ⟨gb_none _ hf2, hbi1.kept (World.grownBy_alloc _ _ none) (by simp), Box.new _ _ _, by omega, by omega⟩); (obtain ⟨c0, c1, c2, c3⟩ := hW.cc); (obtain ⟨i0, i1, i2, i3, i4, i5, i6, i7⟩ := hW.ic)) | (go_at_call 142; go_must (refine (hlg _ hf2).mono ?_); rintro y w' ⟨rfl, rfl⟩) | fail)
  generalize w1.alloc (.cells #[.pointer (some ⟨ab, 0, none⟩), .int .i64 pl, .int .i64 op, .int .i64 s] 217) = W1 at *
  generalize w1.heap.size = cb at *
  clear hop hbi1 hf1 hlg hs1 hbl
  first | (go_quiet ((go_at_call 143; with_reducible exact Calls.quiet_of_same (hsz _)))) | fail
  replace hW := hW.step (gb_drewN (gb_refl _ (some ag)) nq)
  replace hf2 := gb_drewN hf2 nq
  have hA2 := hAr.kept0 hf2
  clear c0 c1 c2 c3 i0 i1 i2 i3 i4 i5 i6 i7
  generalize W1.drewN nq = W2 at *
  obtain ⟨c0, c1, c2, c3⟩ := hW.cc
  obtain ⟨i0, i1, i2, i3, i4, i5, i6, i7⟩ := hW.ic
  go_wp2_with (first | (go_at_call 144; go_must (refine (hmb _).mono ?_); rintro y w3 ⟨rfl, hf3⟩; (have hW3 := hW.step (gb_none _ hf3)); (have hA3 := hA2.kept0 hf3); (clear c0 c1 c2 c3 i0 i1 i2 i3 i4 i5 i6 i7); (obtain ⟨c0, c1, c2, c3⟩ := hW3.cc); (obtain ⟨i0, i1, i2, i3, i4, i5, i6, i7⟩ := hW3.ic)) | (go_at_call 145; go_must (refine (hfl _ hA3).mono ?_); rintro y w4 ⟨rfl, hf4, hA4⟩; (have hW4 := hW3.step hf4); (clear c0 c1 c2 c3 i0 i1 i2 i3 i4 i5 i6 i7); (obtain ⟨c0, c1, c2, c3⟩ := hW4.cc); (obtain ⟨i0, i1, i2, i3, i4, i5, i6, i7⟩ := hW4.ic)) | (go_at_call 146; with_reducible refine (hp1 _ hA4).mono ?_; rintro y w5 ⟨rfl, hf5, hA5⟩; (have hW5 := hW4.step hf5); (clear c0 c1 c2 c3 i0 i1 i2 i3 i4 i5 i6 i7); (obtain ⟨c0, c1, c2, c3⟩ := hW5.cc); (obtain ⟨i0, i1, i2, i3, i4, i5, i6, i7⟩ := hW5.ic)) | (go_at_call 146; with_reducible refine (hp2 _ hA5).mono ?_; rintro y w6 ⟨rfl, hf6, hA6⟩; (have hW6 := hW5.step hf6); (clear c0 c1 c2 c3 i0 i1 i2 i3 i4 i5 i6 i7); (obtain ⟨c0, c1, c2, c3⟩ := hW6.cc); (obtain ⟨i0, i1, i2, i3, i4, i5, i6, i7⟩ := hW6.ic)) | (go_at_call 146; with_reducible refine (hp3 _ hA6).mono ?_; rintro y w7 ⟨rfl, hf7, hA7⟩; (have hW7 := hW6.step hf7); (clear c0 c1 c2 c3 i0 i1 i2 i3 i4 i5 i6 i7); (obtain ⟨c0, c1, c2, c3⟩ := hW7.cc); (obtain ⟨i0, i1, i2, i3, i4, i5, i6, i7⟩ := hW7.ic)) | (go_at_call 147; with_reducible refine (hp4 _ hA7).mono ?_; rintro y w8 ⟨rfl, hf8, hA8⟩; (have hW8 := hW7.step hf8); (clear c0 c1 c2 c3 i0 i1 i2 i3 i4 i5 i6 i7); (obtain ⟨c0, c1, c2, c3⟩ := hW8.cc); (obtain ⟨i0, i1, i2, i3, i4, i5, i6, i7⟩ := hW8.ic)) | (go_at_call 148; with_reducible refine (hp5 _ hA8).mono ?_; rintro y w9 ⟨rfl, hf9, hA9⟩; (have hW9 := hW8.step hf9); (clear c0 c1 c2 c3 i0 i1 i2 i3 i4 i5 i6 i7); (obtain ⟨c0, c1, c2, c3⟩ := hW9.cc); (obtain ⟨i0, i1, i2, i3, i4, i5, i6, i7⟩ := hW9.ic)) | (go_at_call 148; with_reducible refine (hp6 _ hA9).mono ?_; rintro y w10 ⟨rfl, hf10, hA10⟩; (have hW10 := hW9.step hf10); (clear c0 c1 c2 c3 i0 i1 i2 i3 i4 i5 i6 i7); (obtain ⟨c0, c1, c2, c3⟩ := hW10.cc); (obtain ⟨i0, i1, i2, i3, i4, i5, i6, i7⟩ := hW10.ic)) | (go_at_call 148; with_reducible refine (hp7 _ hA10).mono ?_; rintro y w11 ⟨rfl, hf11, hA11⟩; (have hW11 := hW10.step hf11); (clear c0 c1 c2 c3 i0 i1 i2 i3 i4 i5 i6 i7); (obtain ⟨c0, c1, c2, c3⟩ := hW11.cc); (obtain ⟨i0, i1, i2, i3, i4, i5, i6, i7⟩ := hW11.ic)) | (go_at_call 148; with_reducible refine (hp8 _ hA11).mono ?_; rintro y w12 ⟨rfl, hf12, hA12⟩; (have hW12 := hW11.step hf12); (clear c0 c1 c2 c3 i0 i1 i2 i3 i4 i5 i6 i7); (obtain ⟨c0, c1, c2, c3⟩ := hW12.cc); (obtain ⟨i0, i1, i2, i3, i4, i5, i6, i7⟩ := hW12.ic)) | (go_at_call 147; with_reducible refine (hp9 _ hA12).mono ?_; rintro y w13 ⟨rfl, hf13, hA13⟩; (have hW13 := hW12.step hf13); (clear c0 c1 c2 c3 i0 i1 i2 i3 i4 i5 i6 i7); (obtain ⟨c0, c1, c2, c3⟩ := hW13.cc); (obtain ⟨i0, i1, i2, i3, i4, i5, i6, i7⟩ := hW13.ic)) | (go_at_call 149; with_reducible refine (hp10 _ hA13 (hkk _ hW13.gr)).mono ?_; rintro y w14 ⟨rfl, hf14, hA14⟩; (have hW14 := hW13.step hf14); (clear c0 c1 c2 c3 i0 i1 i2 i3 i4 i5 i6 i7); (obtain ⟨c0, c1, c2, c3⟩ := hW14.cc); (obtain ⟨i0, i1, i2, i3, i4, i5, i6, i7⟩ := hW14.ic)) | (go_at_call 150; with_reducible refine (hp11 _ hA14 (hvk _ hW14.gr)).mono ?_; rintro y w15 ⟨rfl, hf15, hA15⟩; (have hW15 := hW14.step hf15)) | fail)
  go_ret
  exact ⟨rfl, HFIN.out _ hW15.gr hA15, hW15.gr⟩
end

end Go.Proofs.YtjkdflnnpdionaaGreat
/-
  What is read of an item: one number, the key.
-/
namespace Go.Proofs.YtjkdflnnpdionaaGreat
open Go.RowKit
set_option linter.unusedVariables false

theorem pw1 : pw 1 = 256 := by decide
theorem pw2 : pw 2 = 65536 := by decide
theorem pw4 : pw 4 = 4294967296 := by decide
theorem pw8 : pw 8 = 18446744073709551616 := by decide
theorem lies_get {zs : List Int} {pl : Nat} {L : List (List Int)} (h : Lies zs pl L.flatten) (i x n : Nat) (z : Int) (hs : L[i]? = some (be n z)) (hx : ((lens L).take i).sum = x) (h0 : 0 ≤ z) (h1 : z < pw n) : getL zs (pl + x) n 0 0 = z := by
  have hc := cut_seg L i _ hs
  rw [hx, be_len] at hc
  have hlt : i < (lens L).length := by
    have := (List.getElem?_eq_some_iff.1 hs).1
    simpa [lens] using this
  have hn : (lens L)[i]? = some n := by simp [lens, hs, be_len]
  have hsum : x + n ≤ L.flatten.length := by
    have h2 : (lens L) = (lens L).take i ++ (lens L).drop i := (List.take_append_drop _ _).symm
    have h3 : (lens L).drop i = n :: (lens L).drop (i + 1) := by
      rw [List.drop_eq_getElem_cons hlt]
      congr 1
      rw [List.getElem?_eq_getElem hlt] at hn
      simpa using hn
    rw [lens_flat, h2, h3]
    simp; omega
  have hle := h.le
  rw [getL_cut _ _ _ (by omega), h.cutE x n hsum, hc]
  exact be_val n z h0 h1

/-- An item lies at a place. -/
structure IsI (zs : List Int) (pl : Nat) (t : It) : Prop where
  lies : Lies zs pl t.L.flatten
  l0 : 0 ≤ t.l0 ∧ t.l0 < 4294967296
  l1 : 0 ≤ t.l1 ∧ t.l1 < 4294967296
  l2 : 0 ≤ t.l2 ∧ t.l2 < 4294967296
  gn : 0 ≤ t.gn ∧ t.gn < 4294967296
  ex : 0 ≤ t.ex ∧ t.ex < 9223372036854775808
  to : 0 ≤ t.to ∧ t.to < 9223372036854775808
  tk : 0 ≤ t.tk ∧ t.tk < 18446744073709551616
  fl : 0 ≤ t.fl ∧ t.fl < 4294967296
  st : 0 ≤ t.st ∧ t.st < 256
  ms : 0 ≤ t.ms ∧ t.ms < 256
  cl : 0 ≤ t.cl ∧ t.cl < 256
  k1 : 1 ≤ t.key.length ∧ t.key.length ≤ 250
  vn : t.val.length ≤ 1048576
  kb : isBytes t.key
  vb : isBytes t.val
theorem IsI.kl {zs : List Int} {pl : Nat} {t : It} (h : IsI zs pl t) : getL zs (pl + 44) 1 0 0 = t.key.length := lies_get h.lies 8 44 1 _ rfl (by rw [It.lens]; rfl) (by have := h.k1; omega) (by rw [pw1]; have := h.k1; omega)
theorem IsI.vl {zs : List Int} {pl : Nat} {t : It} (h : IsI zs pl t) : getL zs (pl + 48) 4 0 0 = t.val.length := lies_get h.lies 12 48 4 _ rfl (by rw [It.lens]; rfl) (by have := h.vn; omega) (by rw [pw4]; have := h.vn; omega)
theorem IsI.token {zs : List Int} {pl : Nat} {t : It} (h : IsI zs pl t) : getL zs (pl + 32) 8 0 0 = t.tk := lies_get h.lies 6 32 8 _ rfl (by rw [It.lens]; rfl) h.tk.1 (by rw [pw8]; exact h.tk.2)
theorem IsI.expiry {zs : List Int} {pl : Nat} {t : It} (h : IsI zs pl t) : getL zs (pl + 16) 8 0 0 = t.ex := lies_get h.lies 4 16 8 _ rfl (by rw [It.lens]; rfl) h.ex.1 (by rw [pw8]; have := h.ex; omega)
theorem IsI.touched {zs : List Int} {pl : Nat} {t : It} (h : IsI zs pl t) : getL zs (pl + 24) 8 0 0 = t.to := lies_get h.lies 5 24 8 _ rfl (by rw [It.lens]; rfl) h.to.1 (by rw [pw8]; have := h.to; omega)
theorem IsI.flags {zs : List Int} {pl : Nat} {t : It} (h : IsI zs pl t) : getL zs (pl + 40) 4 0 0 = t.fl := lies_get h.lies 7 40 4 _ rfl (by rw [It.lens]; rfl) h.fl.1 (by rw [pw4]; exact h.fl.2)
theorem IsI.state {zs : List Int} {pl : Nat} {t : It} (h : IsI zs pl t) : getL zs (pl + 45) 1 0 0 = t.st := lies_get h.lies 9 45 1 _ rfl (by rw [It.lens]; rfl) h.st.1 (by rw [pw1]; exact h.st.2)
theorem IsI.marks {zs : List Int} {pl : Nat} {t : It} (h : IsI zs pl t) : getL zs (pl + 46) 1 0 0 = t.ms := lies_get h.lies 10 46 1 _ rfl (by rw [It.lens]; rfl) h.ms.1 (by rw [pw1]; exact h.ms.2)
theorem IsI.key {zs : List Int} {pl : Nat} {t : It} (h : IsI zs pl t) : cut zs (pl + 56) t.key.length = t.key := by
  have hc := cut_seg t.L 14 t.key rfl
  rw [It.lens] at hc
  rw [h.lies.cutE _ _ (by rw [It.len]; omega)]
  exact hc
theorem IsI.value {zs : List Int} {pl : Nat} {t : It} (h : IsI zs pl t) : cut zs (pl + (56 + t.key.length)) t.val.length = t.val := by
  have hc := cut_seg t.L 15 t.val rfl
  rw [It.lens] at hc
  rw [h.lies.cutE _ _ (by rw [It.len]; omega)]
  have e : ((ns t.key.length t.val.length).take 15).sum = 56 + t.key.length := by simp [ns]; omega
  rw [e] at hc
  exact hc

section
variable {w : World} {sb : Nat} {F : Nat → Prop} {B : Bl} {b c d e f g : Int} {A : Ab} {zs : List Int}

/-- hasItem of an item's chunk. -/
theorem hasItem_it (h : IsS w sb F B b c d e f g A zs) (hA : Fit2 A) {p k : Nat} (hp : p < A.np) (hk : k < A.each (A.own p)) (kl : Nat) (hkl : Hid (getL zs (A.place p k + 44) 1 0 0 = kl)) (hk2 : kl < 256) {w1 : World} (hf : w.grownBy w1 none) :
    Calls Tryz.prog 182 #[chV B.ab (A.place p k) (A.own p) (A.sz (A.own p))] w1 fun y w' => y = .returned (.bool (decide (0 < kl))) ∧ w1.grownBy w' none := by
  have hP := pl_of h hA.toFit1 hp hk
  have h64 := hA.lo _ (hA.on p hp)
  exact hasItem_any ((h.kept0 hf).ar) _ _ _ hP.hb.1 (hP.th 44 1 (by omega)) kl hkl hk2

set_option maxRecDepth 100000 in
set_option maxHeartbeats 1000000 in
theorem openItem_yes (h : IsS w sb F B b c d e f g A zs) (hA : Fit2 A) {H p k : Nat} (hH : IsH A H p k) (kl : Nat) (hkl : Hid (getL zs (A.place p k + 44) 1 0 0 = kl)) (hk2 : 0 < kl ∧ kl < 256) :
    Calls Tryz.prog 198 #[.pointer (some ⟨sb, 0, none⟩), .int .u64 H] w fun y w' => y = .returned (.tuple #[chV B.ab (A.place p k) (A.own p) (A.sz (A.own p)), .int .i64 0]) ∧ w.grownBy w' none := by
  have hal := World.grownBy_alloc w (.cells #[.pointer none, .int .i64 0, .int .i64 0, .int .i64 0] 217) none
  have hop := (open_yes (h.kept0 hal) hA hH).mono (R' := fun y w' => y = .returned (.tuple #[chV B.ab (A.place p k) (A.own p) (A.sz (A.own p)), .int .i64 0]) ∧ w.grownBy w' none ∧ Box w' 217 w.heap.size #[.pointer none, .int .i64 0, .int .i64 0, .int .i64 0]) (by
    rintro y w' ⟨rfl, hf⟩
    exact ⟨rfl, gb_trans hal hf, (Box.new _ _ _).kept hf (by simp)⟩)
  have hhi := fun w1 (hf : w.grownBy w1 none) => hasItem_it h hA hH.hp hH.hk kl hkl hk2.2 hf
  rw [show decide (0 < kl) = true by simpa using hk2.1] at hhi
  clear h hH hkl
  unfold chV at *
  generalize A.place p k = pl at *
  generalize A.sz (A.own p) = s at *
  generalize A.own p = op at *
  generalize B.ab = ab at *
  go_enter Tryz.func198, Tryz.ntmps198
  go_wp2_with (first | (go_at_call 141; go_must (refine hop.mono ?_); rintro y w1 ⟨rfl, hf1, hb1⟩; (have hs1 := hb1.lt); (have hf2 : w.grownBy (w1.alloc (.cells #[.pointer (some ⟨ab, 0, none⟩), .int .i64 pl, .int .i64 op, .int .i64 s] 217)) none := gb_alloc hf1 _); (have hb2 := hb1.kept (World.grownBy_alloc w1 (.cells #[.pointer (some ⟨ab, 0, none⟩), .int .i64 pl, .int .i64 op, .int .i64 s] 217) none) (by simp)); (have hc2 := Box.new w1 217 #[.pointer (some ⟨ab, 0, none⟩), .int .i64 pl, .int .i64 op, .int .i64 s])) | (go_at_call 182; go_must (refine (hhi _ hf2).mono ?_); rintro y w3 ⟨rfl, hf3⟩; (have hb3 := hb2.kept hf3 (by simp)); (have hc3 := hc2.kept hf3 (by simp)); (have z0 := hc3.cell 0); (have z1 := hc3.cell 1); (have z2 := hc3.cell 2); (have z3 := hc3.cell 3); simp at z0 z1 z2 z3; (have y0 := hb3.fz 0); (have y1 := hb3.fz 1); (have y2 := hb3.fz 2); (have y3 := hb3.fz 3); (have v0 := hb3.cell 0); (have v1 := hb3.cell 1); (have v2 := hb3.cell 2); (have v3 := hb3.cell 3); simp at v0 v1 v2 v3) | fail)
  have hF : w.grownBy ((((w3.setCell ⟨w.heap.size, 0, none⟩ (.pointer (some ⟨ab, 0, none⟩))).setCell ⟨w.heap.size, 1, none⟩ (.int .i64 pl)).setCell ⟨w.heap.size, 2, none⟩ (.int .i64 op)).setCell ⟨w.heap.size, 3, none⟩ (.int .i64 s)) none := gb_mine (gb_trans hf2 hf3) (gb_setCell (gb_setCell (gb_setCell (gb_setCell (gb_refl _ _) _) _) _) _) (Nat.le_refl _)
  have hb4 := (((hb3.set 0 (.pointer (some ⟨ab, 0, none⟩))).set 1 (.int .i64 pl)).set 2 (.int .i64 op)).set 3 (.int .i64 s)
  generalize ((((w3.setCell ⟨w.heap.size, 0, none⟩ (.pointer (some ⟨ab, 0, none⟩))).setCell ⟨w.heap.size, 1, none⟩ (.int .i64 pl)).setCell ⟨w.heap.size, 2, none⟩ (.int .i64 op)).setCell ⟨w.heap.size, 3, none⟩ (.int .i64 s)) = V at *
  have x0 := hb4.cell 0
  have x1 := hb4.cell 1
  have x2 := hb4.cell 2
  have x3 := hb4.cell 3
  simp at x0 x1 x2 x3
  exact bodyPost_ret (v := .tuple #[.agg #[.pointer (some ⟨ab, 0, none⟩), .int .i64 pl, .int .i64 op, .int .i64 s], .int .i64 0]) (by simp [results, Tryz.results198, go_sem, x0, x1, x2, x3]) rfl ⟨rfl, hF⟩

set_option maxRecDepth 100000 in
set_option maxHeartbeats 1000000 in
theorem openItem_nil (H : Int) (w : World) :
    Calls Tryz.prog 198 #[.pointer none, .int .u64 H] w fun y w' => y = .returned (.tuple #[.agg #[.pointer none, .int .i64 0, .int .i64 0, .int .i64 0], .int .i64 1]) ∧ w.grownBy w' none := by
  have hal := World.grownBy_alloc w (.cells #[.pointer none, .int .i64 0, .int .i64 0, .int .i64 0] 217) none
  have hop := fun W => open_nil H W
  have hb0 := Box.new w 217 #[.pointer none, .int .i64 0, .int .i64 0, .int .i64 0]
  go_enter Tryz.func198, Tryz.ntmps198
  go_wp2_with (first | (go_at_call 141; go_must (refine (hop _).mono ?_); rintro y w1 ⟨rfl, hf1⟩; (have hb1 := hb0.kept hf1 (by simp)); (have hs1 := hb1.lt); (have hf2 : w.grownBy (w1.alloc (.cells #[.pointer none, .int .i64 0, .int .i64 0, .int .i64 0] 217)) none := gb_alloc (gb_trans hal hf1) _); (have hb3 := hb1.kept (World.grownBy_alloc w1 (.cells #[.pointer none, .int .i64 0, .int .i64 0, .int .i64 0] 217) none) (by simp)); (have hne : ¬ w.heap.size = w1.heap.size := by omega); (have u0 := hb1.cell 0); (have u1 := hb1.cell 1); (have u2 := hb1.cell 2); (have u3 := hb1.cell 3); simp at u0 u1 u2 u3; (have t0 := hb1.fz 0); (have t1 := hb1.fz 1); (have t2 := hb1.fz 2); (have t3 := hb1.fz 3); (have hne2 : ¬ w1.heap.size = w.heap.size := by omega); (have y0 := hb3.fz 0); (have y1 := hb3.fz 1); (have y2 := hb3.fz 2); (have y3 := hb3.fz 3); (have v0 := hb3.cell 0); (have v1 := hb3.cell 1); (have v2 := hb3.cell 2); (have v3 := hb3.cell 3); simp at v0 v1 v2 v3) | fail)
  have hF0 : w.grownBy ((((w1.setCell ⟨w.heap.size, 0, none⟩ (.pointer none)).setCell ⟨w.heap.size, 1, none⟩ (.int .i64 0)).setCell ⟨w.heap.size, 2, none⟩ (.int .i64 0)).setCell ⟨w.heap.size, 3, none⟩ (.int .i64 0)) none := gb_mine (gb_trans hal hf1) (gb_setCell (gb_setCell (gb_setCell (gb_setCell (gb_refl _ _) _) _) _) _) (Nat.le_refl _)
  have hb4 := ((((hb1.set 0 (.pointer none)).set 1 (.int .i64 0)).set 2 (.int .i64 0)).set 3 (.int .i64 0))
  generalize ((((w1.setCell ⟨w.heap.size, 0, none⟩ (.pointer none)).setCell ⟨w.heap.size, 1, none⟩ (.int .i64 0)).setCell ⟨w.heap.size, 2, none⟩ (.int .i64 0)).setCell ⟨w.heap.size, 3, none⟩ (.int .i64 0)) = V at *
  have hF := gb_alloc hF0 (.cells #[.pointer none, .int .i64 0, .int .i64 0, .int .i64 0] 217)
  have hb5 := hb4.kept (World.grownBy_alloc V (.cells #[.pointer none, .int .i64 0, .int .i64 0, .int .i64 0] 217) none) (by simp)
  have x0 := hb5.cell 0
  have x1 := hb5.cell 1
  have x2 := hb5.cell 2
  have x3 := hb5.cell 3
  simp at x0 x1 x2 x3
  generalize V.alloc (.cells #[.pointer none, .int .i64 0, .int .i64 0, .int .i64 0] 217) = V2 at *
  exact bodyPost_ret (v := .tuple #[.agg #[.pointer none, .int .i64 0, .int .i64 0, .int .i64 0], .int .i64 1]) (by simp [results, Tryz.results198, go_sem, x0, x1, x2, x3]) rfl ⟨rfl, hF⟩

end

end Go.Proofs.YtjkdflnnpdionaaGreat
