/- The chapter's definitions on lists: pages, and what becomes of them. Nothing of the program is used here. -/
import Derived.Test.YtpeedjknjjbabaaDoorLinMath
set_option linter.unusedVariables false
namespace Go.Proofs.YtpeedjknjjbabaaDoor

/-- A line: its cells, and whether it is soft. -/
structure Ln where
  l : List Cl
  s : Bool
  deriving DecidableEq
def noLn : Ln := ⟨[], false⟩
/-- A page: how many places, how many of them are gone, the lines. -/
structure Sh where
  places : Nat
  gone : Nat
  ls : List Ln
  deriving DecidableEq
def Sh.room (s : Sh) : Nat := s.places - s.gone - s.ls.length
def shOk (s : Sh) : Prop := s.gone + s.ls.length ≤ s.places ∧ ∀ x ∈ s.ls, validL x.l = true
def pushS (s : Sh) (x : Ln) : Sh × Int := if validL x.l = false then (s, 2) else if s.room = 0 then (s, 7) else (⟨s.places, s.gone, s.ls ++ [x]⟩, 0)
def setS (s : Sh) (i : Int) (x : Ln) : Sh × Int := if validL x.l = false then (s, 2) else if i < 0 ∨ (s.ls.length : Int) ≤ i then (s, 3) else (⟨s.places, s.gone, s.ls.set i.toNat x⟩, 0)
def dropS (s : Sh) (n : Int) : Sh × Int := if n < 0 ∨ (s.ls.length : Int) < n then (s, 3) else (⟨s.places, s.gone + n.toNat, s.ls.drop n.toNat⟩, 0)
def popS (s : Sh) : Sh × Ln × Int := if s.ls = [] then (s, noLn, 9) else (⟨s.places, s.gone, s.ls.dropLast⟩, s.ls.getLastD noLn, 0)
def getS (s : Sh) (i : Int) : Ln × Int := if i < 0 ∨ (s.ls.length : Int) ≤ i then (noLn, 3) else (s.ls.getD i.toNat noLn, 0)

theorem push_ok {s : Sh} {x : Ln} (h : shOk s) : shOk (pushS s x).1 := by
  unfold pushS
  split
  · exact h
  · rename_i hv
    split
    · exact h
    · rename_i hr
      refine ⟨?_, fun y hy => ?_⟩
      · have h1 := h.1
        have h2 : s.places - s.gone - s.ls.length ≠ 0 := hr
        simp only [List.length_append, List.length_cons, List.length_nil]
        omega
      · rcases List.mem_append.1 hy with hy | hy
        · exact h.2 y hy
        · simp only [List.mem_singleton] at hy
          subst hy
          simpa using hv
theorem set_ok {s : Sh} {i : Int} {x : Ln} (h : shOk s) : shOk (setS s i x).1 := by
  unfold setS
  split
  · exact h
  · rename_i hv
    split
    · exact h
    · refine ⟨by simpa using h.1, fun y hy => ?_⟩
      rcases List.mem_or_eq_of_mem_set hy with hy | hy
      · exact h.2 y hy
      · subst hy
        simpa using hv
theorem drop_ok {s : Sh} {n : Int} (h : shOk s) : shOk (dropS s n).1 := by
  unfold dropS
  split
  · exact h
  · rename_i hn
    refine ⟨?_, fun y hy => h.2 y (List.mem_of_mem_drop hy)⟩
    have h1 := h.1
    simp only [List.length_drop]
    omega
theorem pop_ok {s : Sh} (h : shOk s) : shOk (popS s).1 := by
  unfold popS
  split
  · exact h
  · refine ⟨?_, fun y hy => h.2 y ((List.dropLast_sublist _).subset hy)⟩
    have h1 := h.1
    simp only [List.length_dropLast]
    omega
/-- Len, Room and Gone are together Cap. -/
theorem sum_ok {s : Sh} (h : shOk s) : s.ls.length + s.room + s.gone = s.places := by
  have := h.1
  unfold Sh.room
  omega
end Go.Proofs.YtpeedjknjjbabaaDoor
