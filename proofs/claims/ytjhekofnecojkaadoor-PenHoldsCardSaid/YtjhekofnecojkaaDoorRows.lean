/-
  NARROWER THAN 'FOR EVERY INPUT', by the rows' own cells (each row's printed sentence says how): PenValid: laid · PenColors: laid · PenWords: laid · PenNames: laid · PenHolds: laid.
  DERIVED. THE GIVEN ROWS OF THIS SEAT. 5 by the template 'for every input the law returns true; each argument reads behind the call as it read before'; 0 by the template 'total and deterministic' (their statements: YtjhekofnecojkaaDoorTotals.lean).
  GIVEN WITH THE SEED: the statements are not yours to turn. If you find one false, say at which input.
  Laid BY PROGRAM, IN A SANDBOX (cutbox-rows.mjs): the forced cells as the released guide's own fill.sh prints them over the translation 6d6acc280e3df0fc… (all of the seat's roots in one cut). By AI agents, Wed Nov 11 2026. No macro, syntax, notation, axiom, sorry.
-/
import Derived.Test.YtjhekofnecojkaaDoorChecked
import GoSem.Claim
import GoSem.ClaimJoined
import GoSem.ClaimMapViews
import Derived.JoinedTies
import Derived.KernelRfl
namespace Go.Proofs.YtjhekofnecojkaaDoor
/- THE CELL 'sum', in the pinned program and in every row, IS THE sha256 OF THE DUMP (.gsa) THAT YtjhekofnecojkaaDoorProg.lean LOADS. Nothing in Lean hashes anything: it is a label: what it is worth is what the hold of that sum in a sandbox is worth. -/
noncomputable def Tryd.pinned : Pinned := { name := "ytjhekofnecojkaadoor", sum := "6d6acc280e3df0fce783dc58a3add8cf73a0aca0b02e07e89dcd0f25b91c21a4", checked := Tryd.checked }
namespace Rows
def none {H : Type} : Left H := { results := [], args := [] }

/- WHAT THE LISTED PACKAGE-LEVEL VARIABLES READ AS WHEN THE CALL BEGINS. Each datum BY PROGRAM (the guide's laid-datum.mjs) off the statement by which the dump's own 'gosem.cut.vars' lays the variable. In a bare row this is a premise. The card (YtjhekofnecojkaaDoorCards.lean) ties it to the program's text. -/
def laid_scrollback_pen_words {H : Type} : DataW H := .agg [.lit (.string [98, 111, 108, 100]), .lit (.string [102, 97, 105, 110, 116]), .lit (.string [105, 116, 97, 108, 105, 99]), .lit (.string [117, 110, 100, 101, 114, 108, 105, 110, 101]), .lit (.string [98, 108, 105, 110, 107]), .lit (.string [105, 110, 118, 101, 114, 115, 101]), .lit (.string [104, 105, 100, 100, 101, 110]), .lit (.string [115, 116, 114, 117, 99, 107])]

/-- 'scrollbacklaw03.PenValid': WHATEVER THE INPUT: true; the input reads as it did. -/
def penValidSpec : ChangeSpec := { name := "penValid", fn := fun _ => fun
  | [d] => { results := [.lit (.bool true)], args := [d] }
  | _ => none }
def penValidRow : OpenClaim := { program := "ytjhekofnecojkaadoor", sum := "6d6acc280e3df0fce783dc58a3add8cf73a0aca0b02e07e89dcd0f25b91c21a4", func := "scrollback/scrollbacklaw03.PenValid", spec := "penValid", named := ["scrollback/pen.words"], apart := false, laid := [("scrollback/pen.words", laid_scrollback_pen_words)] }
def PenValidSaid : Prop := penValidRow.holds Tryd.pinned (OpenSpec.ofChange penValidSpec)

/-- ITS FALSE NEIGHBOUR: 'it returns false'. Refute it at one input. -/
def penValidWrong : ChangeSpec := { name := "penValid", fn := fun _ => fun
  | [d] => { results := [.lit (.bool false)], args := [d] }
  | _ => none }
def PenValidWrongFalsely : Prop := penValidRow.holds Tryd.pinned (OpenSpec.ofChange penValidWrong)

/-- 'scrollbacklaw03.PenColors': WHATEVER THE INPUT: true; the input reads as it did. -/
def penColorsSpec : ChangeSpec := { name := "penColors", fn := fun _ => fun
  | [d1, d2, d3, d4] => { results := [.lit (.bool true)], args := [d1, d2, d3, d4] }
  | _ => none }
def penColorsRow : OpenClaim := { program := "ytjhekofnecojkaadoor", sum := "6d6acc280e3df0fce783dc58a3add8cf73a0aca0b02e07e89dcd0f25b91c21a4", func := "scrollback/scrollbacklaw03.PenColors", spec := "penColors", named := ["scrollback/pen.words"], apart := false, laid := [("scrollback/pen.words", laid_scrollback_pen_words)] }
def PenColorsSaid : Prop := penColorsRow.holds Tryd.pinned (OpenSpec.ofChange penColorsSpec)

/-- ITS FALSE NEIGHBOUR: 'it returns false'. Refute it at one input. -/
def penColorsWrong : ChangeSpec := { name := "penColors", fn := fun _ => fun
  | [d1, d2, d3, d4] => { results := [.lit (.bool false)], args := [d1, d2, d3, d4] }
  | _ => none }
def PenColorsWrongFalsely : Prop := penColorsRow.holds Tryd.pinned (OpenSpec.ofChange penColorsWrong)

/-- 'scrollbacklaw03.PenWords': WHATEVER THE INPUT: true; the input reads as it did. -/
def penWordsSpec : ChangeSpec := { name := "penWords", fn := fun _ => fun
  | [d] => { results := [.lit (.bool true)], args := [d] }
  | _ => none }
def penWordsRow : OpenClaim := { program := "ytjhekofnecojkaadoor", sum := "6d6acc280e3df0fce783dc58a3add8cf73a0aca0b02e07e89dcd0f25b91c21a4", func := "scrollback/scrollbacklaw03.PenWords", spec := "penWords", named := ["scrollback/pen.words"], apart := false, laid := [("scrollback/pen.words", laid_scrollback_pen_words)] }
def PenWordsSaid : Prop := penWordsRow.holds Tryd.pinned (OpenSpec.ofChange penWordsSpec)

/-- ITS FALSE NEIGHBOUR: 'it returns false'. Refute it at one input. -/
def penWordsWrong : ChangeSpec := { name := "penWords", fn := fun _ => fun
  | [d] => { results := [.lit (.bool false)], args := [d] }
  | _ => none }
def PenWordsWrongFalsely : Prop := penWordsRow.holds Tryd.pinned (OpenSpec.ofChange penWordsWrong)

/-- 'scrollbacklaw03.PenNames': WHATEVER THE INPUT: true; the input reads as it did. -/
def penNamesSpec : ChangeSpec := { name := "penNames", fn := fun _ => fun
  | [d1, d2] => { results := [.lit (.bool true)], args := [d1, d2] }
  | _ => none }
def penNamesRow : OpenClaim := { program := "ytjhekofnecojkaadoor", sum := "6d6acc280e3df0fce783dc58a3add8cf73a0aca0b02e07e89dcd0f25b91c21a4", func := "scrollback/scrollbacklaw03.PenNames", spec := "penNames", named := ["scrollback/pen.words"], apart := false, laid := [("scrollback/pen.words", laid_scrollback_pen_words)] }
def PenNamesSaid : Prop := penNamesRow.holds Tryd.pinned (OpenSpec.ofChange penNamesSpec)

/-- ITS FALSE NEIGHBOUR: 'it returns false'. Refute it at one input. -/
def penNamesWrong : ChangeSpec := { name := "penNames", fn := fun _ => fun
  | [d1, d2] => { results := [.lit (.bool false)], args := [d1, d2] }
  | _ => none }
def PenNamesWrongFalsely : Prop := penNamesRow.holds Tryd.pinned (OpenSpec.ofChange penNamesWrong)

/-- 'scrollbacklaw03.PenHolds': WHATEVER THE INPUT: true; the input reads as it did. -/
def penHoldsSpec : ChangeSpec := { name := "penHolds", fn := fun _ => fun
  | [d1, d2, d3, d4] => { results := [.lit (.bool true)], args := [d1, d2, d3, d4] }
  | _ => none }
def penHoldsRow : OpenClaim := { program := "ytjhekofnecojkaadoor", sum := "6d6acc280e3df0fce783dc58a3add8cf73a0aca0b02e07e89dcd0f25b91c21a4", func := "scrollback/scrollbacklaw03.PenHolds", spec := "penHolds", named := ["scrollback/pen.words"], apart := false, laid := [("scrollback/pen.words", laid_scrollback_pen_words)] }
def PenHoldsSaid : Prop := penHoldsRow.holds Tryd.pinned (OpenSpec.ofChange penHoldsSpec)

/-- ITS FALSE NEIGHBOUR: 'it returns false'. Refute it at one input. -/
def penHoldsWrong : ChangeSpec := { name := "penHolds", fn := fun _ => fun
  | [d1, d2, d3, d4] => { results := [.lit (.bool false)], args := [d1, d2, d3, d4] }
  | _ => none }
def PenHoldsWrongFalsely : Prop := penHoldsRow.holds Tryd.pinned (OpenSpec.ofChange penHoldsWrong)

/- THE SECOND FORM. 'bulk': how many values and letters a reading holds, each counted each time it is reached (what is shared counts as often as it is met; a slice's spare places count too). A statement '..UptoSaid' is the law's where the arguments, and the package variables that the reading takes, are together of bulk at most 1048576: NARROWER than '..Said'. Prove '..Said' where nothing that the law and all that it calls make is longer than what came in: it says more and counts as full. Else prove '..UptoSaid'. A law counts once. -/
mutual
def uptoBulk {H : Type} : DataW H → Nat
  | .lit (.string bytes) => bytes.length + 1
  | .lit _ => 1
  | .nil => 1
  | .ptr d => uptoBulk d + 1
  | .slice elems spare => uptoBulkAll elems + uptoBulkAll spare + 1
  | .agg parts => uptoBulkAll parts + 1
  | .iface _ d => uptoBulk d + 1
  | .map entries => uptoBulkEntries entries + 1
  | .held _ => 1
def uptoBulkAll {H : Type} : List (DataW H) → Nat
  | [] => 0
  | d :: r => uptoBulk d + uptoBulkAll r
def uptoBulkEntries {H : Type} : List (Lit × DataW H) → Nat
  | [] => 0
  | x :: r => uptoBulkEntry x + uptoBulkEntries r
def uptoBulkEntry {H : Type} : Lit × DataW H → Nat
  | (.string bytes, d) => bytes.length + uptoBulk d + 1
  | (_, d) => uptoBulk d + 1
 end
def uptoSmall : (H : Type) → List (DataW H) → Bool := fun _ ds => decide (uptoBulkAll ds ≤ 1048576)
def OpenSpec.upto (s : _root_.Go.ChangeSpec) : _root_.Go.OpenSpec := { _root_.Go.OpenSpec.ofChange s with cond := some uptoSmall }

/-- 'scrollbacklaw03.PenValid', WHERE WHAT IT READS IS OF BULK AT MOST 1048576: true; the input reads as it did. -/
def penValidUptoRow : OpenClaim := { program := "ytjhekofnecojkaadoor", sum := "6d6acc280e3df0fce783dc58a3add8cf73a0aca0b02e07e89dcd0f25b91c21a4", func := "scrollback/scrollbacklaw03.PenValid", spec := "penValid", named := ["scrollback/pen.words"], apart := false, laid := [("scrollback/pen.words", laid_scrollback_pen_words)], narrowed := true }
def PenValidUptoSaid : Prop := penValidUptoRow.holds Tryd.pinned (OpenSpec.upto penValidSpec)

/-- 'scrollbacklaw03.PenColors', WHERE WHAT IT READS IS OF BULK AT MOST 1048576: true; the input reads as it did. -/
def penColorsUptoRow : OpenClaim := { program := "ytjhekofnecojkaadoor", sum := "6d6acc280e3df0fce783dc58a3add8cf73a0aca0b02e07e89dcd0f25b91c21a4", func := "scrollback/scrollbacklaw03.PenColors", spec := "penColors", named := ["scrollback/pen.words"], apart := false, laid := [("scrollback/pen.words", laid_scrollback_pen_words)], narrowed := true }
def PenColorsUptoSaid : Prop := penColorsUptoRow.holds Tryd.pinned (OpenSpec.upto penColorsSpec)

/-- 'scrollbacklaw03.PenWords', WHERE WHAT IT READS IS OF BULK AT MOST 1048576: true; the input reads as it did. -/
def penWordsUptoRow : OpenClaim := { program := "ytjhekofnecojkaadoor", sum := "6d6acc280e3df0fce783dc58a3add8cf73a0aca0b02e07e89dcd0f25b91c21a4", func := "scrollback/scrollbacklaw03.PenWords", spec := "penWords", named := ["scrollback/pen.words"], apart := false, laid := [("scrollback/pen.words", laid_scrollback_pen_words)], narrowed := true }
def PenWordsUptoSaid : Prop := penWordsUptoRow.holds Tryd.pinned (OpenSpec.upto penWordsSpec)

/-- 'scrollbacklaw03.PenNames', WHERE WHAT IT READS IS OF BULK AT MOST 1048576: true; the input reads as it did. -/
def penNamesUptoRow : OpenClaim := { program := "ytjhekofnecojkaadoor", sum := "6d6acc280e3df0fce783dc58a3add8cf73a0aca0b02e07e89dcd0f25b91c21a4", func := "scrollback/scrollbacklaw03.PenNames", spec := "penNames", named := ["scrollback/pen.words"], apart := false, laid := [("scrollback/pen.words", laid_scrollback_pen_words)], narrowed := true }
def PenNamesUptoSaid : Prop := penNamesUptoRow.holds Tryd.pinned (OpenSpec.upto penNamesSpec)

/-- 'scrollbacklaw03.PenHolds', WHERE WHAT IT READS IS OF BULK AT MOST 1048576: true; the input reads as it did. -/
def penHoldsUptoRow : OpenClaim := { program := "ytjhekofnecojkaadoor", sum := "6d6acc280e3df0fce783dc58a3add8cf73a0aca0b02e07e89dcd0f25b91c21a4", func := "scrollback/scrollbacklaw03.PenHolds", spec := "penHolds", named := ["scrollback/pen.words"], apart := false, laid := [("scrollback/pen.words", laid_scrollback_pen_words)], narrowed := true }
def PenHoldsUptoSaid : Prop := penHoldsUptoRow.holds Tryd.pinned (OpenSpec.upto penHoldsSpec)

end Rows
end Go.Proofs.YtjhekofnecojkaaDoor
