/- cell.Texts, the reference's Texts. -/
import Derived.Test.YtpeedjknjjbabaaDoorCelBld
import Derived.Test.YtpeedjknjjbabaaDoorCelRt
import Derived.Test.YtpeedjknjjbabaaDoorCelSl
namespace Go.Proofs.YtpeedjknjjbabaaDoor
open Go.RowKit
set_option linter.unusedVariables false
set_option maxRecDepth 100000

/-- A builder stays one while other blocks turn. -/
theorem isBuilder_kept {T e : TypeId} {B b : Nat} {p : Value} {bs : List Value} {w w' : World} (h : Lib.BuilderAt T e B b p bs w) (hk : Kept [] w w') : Lib.BuilderAt T e B b p bs w' := by
  obtain ⟨hB, v, hb, ho, hne⟩ := h
  refine ⟨hB, v, hk.heap hb (by simp), ?_, hne⟩
  obtain ⟨a, c, rfl⟩ : ∃ a c, v = .slice a bs.length c := by
    rcases ho.2 with ⟨hv, h0⟩ | ⟨g, cap, cur, hv, _⟩
    · exact ⟨none, 0, by rw [hv, h0]⟩
    · exact ⟨_, _, hv⟩
  exact Own.kept (a := a) (n := bs.length) (c := c) ho hk (by simp)
theorem isB_kept {T e : TypeId} {B b : Nat} {bs : List Value} {w w' : World} (h : Lib.IsBuilder T e B b bs w) (hk : Kept [] w w') : Lib.IsBuilder T e B b bs w' :=
  h.imp (fun h => isBuilder_kept h hk) (fun h => isBuilder_kept h hk)
theorem textC_size (c : Cl) : (textC c).size ≤ 16 := by
  unfold textC
  split
  · decide
  · split
    · decide
    · have h := runesBytes_size_le (textL c)
      have h2 := runesTo_len c 3
      have h3 : (textL c).length ≤ 4 := h2
      omega
theorem textsC_snoc (l : List Cl) (x : Cl) : textsC (l ++ [x]) = textsC l ++ (textC x).data.toList := by simp [textsC]
theorem textsC_len (l : List Cl) : (textsC l).length ≤ 16 * l.length := by
  induction l with
  | nil => simp [textsC]
  | cons c l ih =>
    have h := textC_size c
    have e : textsC (c :: l) = (textC c).data.toList ++ textsC l := by simp [textsC]
    rw [e, List.length_append, Array.length_toList, List.length_cons]
    have : (textC c).data.size = (textC c).size := rfl
    omega
def textsB (l : List Cl) : ByteArray := ⟨(textsC l).toArray⟩
theorem textsB_snoc (l : List Cl) (x : Cl) : textsB (l ++ [x]) = textsB l ++ textC x := by
  have h := ByteArray.mk_append_mk (textsC l) (textC x).data.toList
  unfold textsB
  rw [textsC_snoc, ← h, Array.toArray_toList]
theorem textsB_size (l : List Cl) : (textsB l).size ≤ 16 * l.length := by
  have := textsC_len l
  unfold textsB
  rw [ByteArray.size_mk', List.size_toArray]
  exact this

end Go.Proofs.YtpeedjknjjbabaaDoor
