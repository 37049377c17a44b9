import Derived.Test.YtoomnhclaofgaaaGreatIs
import Derived.Test.YtoomnhclaofgaaaGreatIq
import Derived.Test.YtoomnhclaofgaaaGreatIu
import Derived.Test.YtoomnhclaofgaaaGreatIl
/-
  ItemBack's walk: words.
-/
namespace Go.Proofs.YtoomnhclaofgaaaGreat
open Go.RowKit
set_option linter.unusedVariables false

/-- Where ItemBack stands: the law's own argument (xc), its item (ic, in block ib), the Set, the bytes that are handed in. -/
structure BK (w : World) (xc : Array Value) (sb ib : Nat) (F : Nat → Prop) (B : Bl) (b c d e f g : Int) (A : Ab) (ko va na : Option Addr) (kn vn nn : Nat) (K vs us : List Int) (ic : Array Value) (zs : List Int) (W : World) : Prop where
  gr : w.grownBy W none
  bx : Box W 25 w.heap.size xc
  bi : Box W 40 ib ic
  is : IsS W sb F B b c d e f g A zs
  hk : Has W ko kn K
  hv : Has W va vn vs
  hu : Has W na nn us
/-- What is apart from the arena's bytes. -/
structure BKs (w : World) (ib : Nat) (B : Bl) (ko va na : Option Addr) : Prop where
  ag : w.heap.size < B.ag
  ib : ib ≠ B.ag
  ko : ∀ x, ko.map (·.block) = some x → x ≠ B.ag
  va : ∀ x, va.map (·.block) = some x → x ≠ B.ag
  na : ∀ x, na.map (·.block) = some x → x ≠ B.ag

section
variable {w : World} {xc : Array Value} {sb ib : Nat} {F : Nat → Prop} {B : Bl} {b c d e f g : Int} {A : Ab} {ko va na : Option Addr} {kn vn nn : Nat} {K vs us : List Int} {ic : Array Value} {zs : List Int} {W W' : World}
theorem BK.step (h : BK w xc sb ib F B b c d e f g A ko va na kn vn nn K vs us ic zs W) (hf : W.grownBy W' none) : BK w xc sb ib F B b c d e f g A ko va na kn vn nn K vs us ic zs W' :=
  ⟨gb_trans h.gr hf, h.bx.kept hf (by simp), h.bi.kept hf (by simp), h.is.kept0 hf, h.hk.kept0 hf, h.hv.kept0 hf, h.hu.kept0 hf⟩
theorem BK.laid (h : BK w xc sb ib F B b c d e f g A ko va na kn vn nn K vs us ic zs W) (hs : BKs w ib B ko va na) {zs' : List Int} (hf : W.grownBy W' (some B.ag)) (hS : IsS W' sb F B b c d e f g A zs') : BK w xc sb ib F B b c d e f g A ko va na kn vn nn K vs us ic zs' W' := by
  have h1 := hs.ag
  have h2 := hs.ib
  refine ⟨gb_mine h.gr hf (by omega), h.bx.kept hf (by simp; omega), h.bi.kept hf (by simpa using h2), hS, h.hk.kept hf (fun x hx => by have := hs.ko x hx; simpa using this), h.hv.kept hf (fun x hx => by have := hs.va x hx; simpa using this), h.hu.kept hf (fun x hx => by have := hs.na x hx; simpa using this)⟩
theorem bk_chunk (h : BK w xc sb ib F B b c d e f g A ko va na kn vn nn K vs us ic zs W) (hA : Fit2 A) {H p k : Nat} (hH : IsH A H p k) :
    Calls Tryz.prog 12 #[.pointer (some ⟨sb, 0, none⟩), .int .u64 H] W fun y W' => ∃ gg, y = .returned (.slice (some ⟨gg, 0, none⟩) (A.sz (A.own p)) (A.sz (A.own p))) ∧ W.heap.size ≤ gg ∧ BK w xc sb ib F B b c d e f g A ko va na kn vn nn K vs us ic zs W' ∧ W.grownBy W' none ∧ W'.heap[gg]? = some (.cells (vals (cut zs (A.place p k) (A.sz (A.own p)))) 5 (0, 0)) :=
  (chunkOf_52 h.is hA hH).mono (by
    rintro y W' ⟨gg, rfl, h1, h2, h3⟩
    exact ⟨gg, rfl, h1, h.step h2, h2, h3⟩)
theorem bk_lay (h : BK w xc sb ib F B b c d e f g A ko va na kn vn nn K vs us ic zs W) (hs : BKs w ib B ko va na) (hA : Fit2 A) {H p k : Nat} (hH : IsH A H p k) (kc : Nat) (qa : Option Addr) (qn qc : Nat) (q : List Int) (hq : Has W qa qn q) (hqb : isBytes q) (hqa : ∀ x, qa.map (·.block) = some x → x ≠ B.ag) (hK : isBytes K) (hl : LegalP K) (fl ex to tk st mk : Int) (hfit : 58 + kn + qn ≤ A.sz (A.own p)) (hb : Bnd fl ex to st mk) (htk : 0 ≤ tk ∧ tk < 18446744073709551616) (gn : Int) (hg : cut zs (A.place p k + 12) 4 = be 4 gn) :
    Calls Tryz.prog 11 #[.pointer (some ⟨sb, 0, none⟩), .int .u64 H, itV ko kn kc qa qn qc fl ex to tk st mk] W fun y W' => y = .returned (.int .i64 0) ∧ BK w xc sb ib F B b c d e f g A ko va na kn vn nn K vs us ic (lay zs (A.place p k) (It.L ⟨0, 0, 0, gn, ex, to, tk, fl, st, mk, A.own p, K, q⟩).flatten) W' ∧ W.grownBy W' (some B.ag) :=
  (lay_yes h.is hA hH ko kn kc qa qn qc fl ex to tk st mk K q h.hk hq hK hqb hs.ko hqa hl hfit hb htk gn hg).mono (by
    rintro y W' ⟨rfl, h1, h2⟩
    exact ⟨rfl, h.laid hs h2 h1, h2⟩)
theorem bk_lay_long (h : BK w xc sb ib F B b c d e f g A ko va na kn vn nn K vs us ic zs W) (hA : Fit2 A) {H p k : Nat} (hH : IsH A H p k) (kc : Nat) (qa : Option Addr) (qn qc : Nat) (hl : LegalP K) (fl ex to tk st mk : Int) (hfit : A.sz (A.own p) < 58 + kn + qn) (hqn : qn ≤ 140737488351232) :
    Calls Tryz.prog 11 #[.pointer (some ⟨sb, 0, none⟩), .int .u64 H, itV ko kn kc qa qn qc fl ex to tk st mk] W fun y W' => y = .returned (.int .i64 6) ∧ BK w xc sb ib F B b c d e f g A ko va na kn vn nn K vs us ic zs W' ∧ W.grownBy W' none :=
  (lay_long h.is hA hH ko kn kc qa qn qc fl ex to tk st mk K h.hk hl hfit hqn).mono (by
    rintro y W' ⟨rfl, h1⟩
    exact ⟨rfl, h.step h1, h1⟩)
theorem bk_read (h : BK w xc sb ib F B b c d e f g A ko va na kn vn nn K vs us ic zs W) (hA : Fit2 A) {H p k : Nat} (hH : IsH A H p k) (t : It) (hI : IsI zs (A.place p k) t) (hfit : 58 + t.key.length + t.val.length ≤ A.sz (A.own p)) :
    Calls Tryz.prog 19 #[.pointer (some ⟨sb, 0, none⟩), .int .u64 H] W fun y W' => ∃ g1 g2, y = .returned (.tuple #[itV (some ⟨g1, 0, none⟩) t.key.length t.key.length (some ⟨g2, 0, none⟩) t.val.length t.val.length t.fl t.ex t.to t.tk t.st t.ms, .int .i64 0]) ∧ BK w xc sb ib F B b c d e f g A ko va na kn vn nn K vs us ic zs W' ∧ W.grownBy W' none ∧ Has W' (some ⟨g1, 0, none⟩) t.key.length t.key ∧ Has W' (some ⟨g2, 0, none⟩) t.val.length t.val :=
  (read_it h.is hA hH t hI hfit).mono (by
    rintro y W' ⟨g1, g2, rfl, h1, h2, h3, h4, h5⟩
    refine ⟨g1, g2, rfl, h.step h1, h1, ⟨rfl, fun _ => ⟨g1, 0, rfl, fun i hi => ?_⟩⟩, ⟨rfl, fun _ => ⟨g2, 0, rfl, fun i hi => ?_⟩⟩⟩
    · rw [Nat.zero_add]; exact cell_of_vals h4 i hi
    · rw [Nat.zero_add]; exact cell_of_vals h5 i hi)
end

end Go.Proofs.YtoomnhclaofgaaaGreat
