/-
  HashBegins' walk, its ways together; what came in.
-/
import Derived.Test.YtcbogbohafmnhaaLa
import Derived.Test.YtcbogbohafmnhaaLb
import Derived.Test.YtcbogbohafmnhaaLc
import Derived.Test.YtcbogbohafmnhaaLd
import Derived.Test.YtcbogbohafmnhaaLe
import Derived.Test.YtcbogbohafmnhaaLf
namespace Go.Proofs.Ytcbogbohafmnhaa
open Go.ChangeShapes Go.WideShapes Go.ChangeAt Go.RowKit
set_option linter.unusedVariables false

/-- The bytes of a string. -/
def nm (s : ByteArray) : List Int := s.data.toList.map fun b => (b.toNat : Int)
theorem nm_bytes (s : ByteArray) : isBytes (nm s) := by
  intro z hz
  obtain ⟨b, _, rfl⟩ := List.mem_map.1 hz
  have := b.toNat_lt
  omega
theorem nm_str (s : ByteArray) : s = strOfNums (nm s) := by
  unfold strOfNums nm
  rw [List.map_map]
  have h : ((fun n : Int => UInt8.ofNat n.toNat) ∘ fun b : UInt8 => (b.toNat : Int)) = id := by
    funext b
    simp
  rw [h, List.map_id]
theorem nm_len (s : ByteArray) : (nm s).length = s.size := by
  unfold nm
  rw [List.length_map]
  rfl

theorem begins_any (s : ByteArray) (xf xm xa : Int) (hs : s.size ≤ maxLen) (w : World) :
    Calls Try.prog 9 #[.agg #[.string s, .int .i64 xf, .int .i64 xm, .int .i64 xa]] w fun e w' => e = .returned (.bool true) ∧ w.grownBy w' none := by
  obtain ⟨rf, f, e1, b1, b2, e2, hf⟩ := within xf 512 (by decide)
  obtain ⟨rm, m, e3, b3, b4, e4, hm⟩ := within xm 512 (by decide)
  simp only [Int.cast_ofNat_Int] at e1 b1 b2 e2 e3 b3 b4 e4
  by_cases hfm : f + 1 ≤ m + 1
  · by_cases h1 : s.size < 1
    · exact begins_c s xf xm xa hs rf rm f m (f + 1) (m + 1) e1 ⟨b1, b2⟩ e2 (by omega) e3 ⟨b3, b4⟩ e4 (by omega) (by omega) (by omega) hfm h1 w
    · by_cases h2 : 250 < s.size
      · exact begins_e s xf xm xa hs rf rm f m (f + 1) (m + 1) e1 ⟨b1, b2⟩ e2 (by omega) e3 ⟨b3, b4⟩ e4 (by omega) (by omega) (by omega) hfm h2 w
      · exact begins_a s xf xm xa hs rf rm f m (f + 1) (m + 1) e1 ⟨b1, b2⟩ e2 (by omega) e3 ⟨b3, b4⟩ e4 (by omega) (by omega) (by omega) hfm (nm s) (nm_bytes s) (nm_str s) (by omega) (by omega) w
  · have hfm : m + 1 < f + 1 := by omega
    by_cases h1 : s.size < 1
    · exact begins_d s xf xm xa hs rf rm f m (f + 1) (m + 1) e1 ⟨b1, b2⟩ e2 (by omega) e3 ⟨b3, b4⟩ e4 (by omega) (by omega) (by omega) hfm h1 w
    · by_cases h2 : 250 < s.size
      · exact begins_f s xf xm xa hs rf rm f m (f + 1) (m + 1) e1 ⟨b1, b2⟩ e2 (by omega) e3 ⟨b3, b4⟩ e4 (by omega) (by omega) (by omega) hfm h2 w
      · exact begins_b s xf xm xa hs rf rm f m (f + 1) (m + 1) e1 ⟨b1, b2⟩ e2 (by omega) e3 ⟨b3, b4⟩ e4 (by omega) (by omega) (by omega) hfm (nm s) (nm_bytes s) (nm_str s) (by omega) (by omega) w

section
variable {H : Type} {enc : TypeId × Value → H} {w : World} {base : Nat} {spare : Nat → Bool} {held : Bool}

theorem list4 {α : Type} {l : List α} {a b c d : α} (h : l.length = 4) (h0 : l[0]? = some a) (h1 : l[1]? = some b) (h2 : l[2]? = some c) (h3 : l[3]? = some d) : l = [a, b, c, d] := by
  match l, h with
  | [_, _, _, _], _ => simp at h0 h1 h2 h3; simp [h0, h1, h2, h3]
theorem cells57 : Try.prog.cellsOf 57 = 4 := by kernel_rfl

set_option maxRecDepth 100000 in
theorem open_begins {r : Reach} {b0 : Nat} {v : Value} {d : DataW H} {p : List MemPlace}
    (hv : Value.okWide Try.prog w r b0 57 v) (h : DataW.Trod enc Try.prog w base spare held 57 v d p) :
    ∃ (s : ByteArray) (x1 x2 x3 : Int), v = .agg #[.string s, .int .i64 x1, .int .i64 x2, .int .i64 x3] ∧ s.size ≤ maxLen := by
  obtain ⟨cs, rfl, hsz⟩ := okWide_struct Try.underlying57 hv
  obtain ⟨fuel, hf⟩ := h
  have hf' : DataW.trod enc Try.prog w base spare held fuel 57 cs.toList = some (d, p) := by simpa [Value.cells] using hf
  obtain ⟨s, e0, w0⟩ := field_string 0 Try.underlying57 hf' rfl Try.underlying9 (by kernel_rfl)
  obtain ⟨x1, e1, w1⟩ := field_int 1 Try.underlying57 hf' rfl Try.underlying3 (by kernel_rfl)
  obtain ⟨x2, e2, w2⟩ := field_int 2 Try.underlying57 hf' rfl Try.underlying3 (by kernel_rfl)
  obtain ⟨x3, e3, w3⟩ := field_int 3 Try.underlying57 hf' rfl Try.underlying3 (by kernel_rfl)
  refine ⟨s, x1, x2, x3, ?_, w0⟩
  have := list4 (by rw [cells57] at hsz; simpa using hsz) e0 e1 e2 e3
  congr
  apply Array.ext'
  rw [this]

end

end Go.Proofs.Ytcbogbohafmnhaa
