/-
  NARROWER THAN 'FOR EVERY INPUT', by the rows' own cells (each row's printed sentence says how): LineNew: laid · LineLooks: laid · LineFits: laid · LinePuts: laid · LineLongs: laid · LineHolds: laid.
  DERIVED. THE GIVEN ROWS OF THIS SEAT. 6 by the template 'for every input the law returns true; each argument reads behind the call as it read before'; 0 by the template 'total and deterministic' (their statements: YtkhdnaopdhnkaaaDoorTotals.lean).
  GIVEN WITH THE SEED: the statements are not yours to turn. If you find one false, say at which input.
  Laid BY PROGRAM, IN A SANDBOX (cutbox-rows.mjs): the forced cells as the released guide's own fill.sh prints them over the translation 531233b76831f9af… (all of the seat's roots in one cut). By AI agents, Wed Nov 11 2026. No macro, syntax, notation, axiom, sorry.
-/
import Derived.Test.YtkhdnaopdhnkaaaDoorChecked
import GoSem.Claim
import GoSem.ClaimJoined
import GoSem.ClaimMapViews
import Derived.JoinedTies
import Derived.KernelRfl
namespace Go.Proofs.YtkhdnaopdhnkaaaDoor
/- THE CELL 'sum', in the pinned program and in every row, IS THE sha256 OF THE DUMP (.gsa) THAT YtkhdnaopdhnkaaaDoorProg.lean LOADS. Nothing in Lean hashes anything: it is a label: what it is worth is what the hold of that sum in a sandbox is worth. -/
noncomputable def Tryd.pinned : Pinned := { name := "ytkhdnaopdhnkaaadoor", sum := "531233b76831f9af618611b1f18a47dbfd433005c6d17bcfde3b3e8f189e66eb", checked := Tryd.checked }
namespace Rows
def none {H : Type} : Left H := { results := [], args := [] }

/- WHAT THE LISTED PACKAGE-LEVEL VARIABLES READ AS WHEN THE CALL BEGINS. Each datum BY PROGRAM (the guide's laid-datum.mjs) off the statement by which the dump's own 'gosem.cut.vars' lays the variable. In a bare row this is a premise. The card (YtkhdnaopdhnkaaaDoorCards.lean) ties it to the program's text. -/
def laid_scrollback_width_marks {H : Type} : DataW H := .agg [.agg [.lit (.int .i32 768), .lit (.int .i32 879)], .agg [.lit (.int .i32 1155), .lit (.int .i32 1161)], .agg [.lit (.int .i32 1425), .lit (.int .i32 1469)], .agg [.lit (.int .i32 1552), .lit (.int .i32 1562)], .agg [.lit (.int .i32 1611), .lit (.int .i32 1631)], .agg [.lit (.int .i32 1750), .lit (.int .i32 1756)], .agg [.lit (.int .i32 3633), .lit (.int .i32 3633)], .agg [.lit (.int .i32 3636), .lit (.int .i32 3642)], .agg [.lit (.int .i32 3655), .lit (.int .i32 3662)], .agg [.lit (.int .i32 6832), .lit (.int .i32 6911)], .agg [.lit (.int .i32 7616), .lit (.int .i32 7679)], .agg [.lit (.int .i32 8203), .lit (.int .i32 8207)], .agg [.lit (.int .i32 8400), .lit (.int .i32 8447)], .agg [.lit (.int .i32 12330), .lit (.int .i32 12335)], .agg [.lit (.int .i32 12441), .lit (.int .i32 12442)], .agg [.lit (.int .i32 65024), .lit (.int .i32 65039)], .agg [.lit (.int .i32 65056), .lit (.int .i32 65071)], .agg [.lit (.int .i32 917760), .lit (.int .i32 917999)]]
def laid_scrollback_width_wide {H : Type} : DataW H := .agg [.agg [.lit (.int .i32 4352), .lit (.int .i32 4447)], .agg [.lit (.int .i32 9001), .lit (.int .i32 9002)], .agg [.lit (.int .i32 11904), .lit (.int .i32 12329)], .agg [.lit (.int .i32 12336), .lit (.int .i32 12350)], .agg [.lit (.int .i32 12353), .lit (.int .i32 12440)], .agg [.lit (.int .i32 12443), .lit (.int .i32 13311)], .agg [.lit (.int .i32 13312), .lit (.int .i32 19903)], .agg [.lit (.int .i32 19968), .lit (.int .i32 42191)], .agg [.lit (.int .i32 43360), .lit (.int .i32 43391)], .agg [.lit (.int .i32 44032), .lit (.int .i32 55203)], .agg [.lit (.int .i32 63744), .lit (.int .i32 64255)], .agg [.lit (.int .i32 65072), .lit (.int .i32 65135)], .agg [.lit (.int .i32 65280), .lit (.int .i32 65376)], .agg [.lit (.int .i32 65504), .lit (.int .i32 65510)], .agg [.lit (.int .i32 127744), .lit (.int .i32 128591)], .agg [.lit (.int .i32 128640), .lit (.int .i32 128767)], .agg [.lit (.int .i32 129280), .lit (.int .i32 129535)], .agg [.lit (.int .i32 131072), .lit (.int .i32 196605)], .agg [.lit (.int .i32 196608), .lit (.int .i32 262141)]]

/-- 'scrollbacklaw06.LineNew': WHATEVER THE INPUT: true; the input reads as it did. -/
def lineNewSpec : ChangeSpec := { name := "lineNew", fn := fun _ => fun
  | [d1, d2, d3] => { results := [.lit (.bool true)], args := [d1, d2, d3] }
  | _ => none }
def lineNewRow : OpenClaim := { program := "ytkhdnaopdhnkaaadoor", sum := "531233b76831f9af618611b1f18a47dbfd433005c6d17bcfde3b3e8f189e66eb", func := "scrollback/scrollbacklaw06.LineNew", spec := "lineNew", inPlace := ["internal/abi.NoEscape"], unfollowed := true, recurses := true, named := ["scrollback/width.marks", "scrollback/width.wide"], apart := false, laid := [("scrollback/width.marks", laid_scrollback_width_marks), ("scrollback/width.wide", laid_scrollback_width_wide)] }
def LineNewSaid : Prop := lineNewRow.holds Tryd.pinned (OpenSpec.ofChange lineNewSpec)

/-- ITS FALSE NEIGHBOUR: 'it returns false'. Refute it at one input. -/
def lineNewWrong : ChangeSpec := { name := "lineNew", fn := fun _ => fun
  | [d1, d2, d3] => { results := [.lit (.bool false)], args := [d1, d2, d3] }
  | _ => none }
def LineNewWrongFalsely : Prop := lineNewRow.holds Tryd.pinned (OpenSpec.ofChange lineNewWrong)

/-- 'scrollbacklaw06.LineLooks': WHATEVER THE INPUT: true; the input reads as it did. -/
def lineLooksSpec : ChangeSpec := { name := "lineLooks", fn := fun _ => fun
  | [d1, d2] => { results := [.lit (.bool true)], args := [d1, d2] }
  | _ => none }
def lineLooksRow : OpenClaim := { program := "ytkhdnaopdhnkaaadoor", sum := "531233b76831f9af618611b1f18a47dbfd433005c6d17bcfde3b3e8f189e66eb", func := "scrollback/scrollbacklaw06.LineLooks", spec := "lineLooks", inPlace := ["internal/abi.NoEscape"], unfollowed := true, recurses := true, named := ["scrollback/width.marks", "scrollback/width.wide"], apart := false, laid := [("scrollback/width.marks", laid_scrollback_width_marks), ("scrollback/width.wide", laid_scrollback_width_wide)] }
def LineLooksSaid : Prop := lineLooksRow.holds Tryd.pinned (OpenSpec.ofChange lineLooksSpec)

/-- ITS FALSE NEIGHBOUR: 'it returns false'. Refute it at one input. -/
def lineLooksWrong : ChangeSpec := { name := "lineLooks", fn := fun _ => fun
  | [d1, d2] => { results := [.lit (.bool false)], args := [d1, d2] }
  | _ => none }
def LineLooksWrongFalsely : Prop := lineLooksRow.holds Tryd.pinned (OpenSpec.ofChange lineLooksWrong)

/-- 'scrollbacklaw06.LineFits': WHATEVER THE INPUT: true; the input reads as it did. -/
def lineFitsSpec : ChangeSpec := { name := "lineFits", fn := fun _ => fun
  | [d1, d2] => { results := [.lit (.bool true)], args := [d1, d2] }
  | _ => none }
def lineFitsRow : OpenClaim := { program := "ytkhdnaopdhnkaaadoor", sum := "531233b76831f9af618611b1f18a47dbfd433005c6d17bcfde3b3e8f189e66eb", func := "scrollback/scrollbacklaw06.LineFits", spec := "lineFits", inPlace := ["internal/abi.NoEscape"], unfollowed := true, recurses := true, named := ["scrollback/width.marks", "scrollback/width.wide"], apart := false, laid := [("scrollback/width.marks", laid_scrollback_width_marks), ("scrollback/width.wide", laid_scrollback_width_wide)] }
def LineFitsSaid : Prop := lineFitsRow.holds Tryd.pinned (OpenSpec.ofChange lineFitsSpec)

/-- ITS FALSE NEIGHBOUR: 'it returns false'. Refute it at one input. -/
def lineFitsWrong : ChangeSpec := { name := "lineFits", fn := fun _ => fun
  | [d1, d2] => { results := [.lit (.bool false)], args := [d1, d2] }
  | _ => none }
def LineFitsWrongFalsely : Prop := lineFitsRow.holds Tryd.pinned (OpenSpec.ofChange lineFitsWrong)

/-- 'scrollbacklaw06.LinePuts': WHATEVER THE INPUT: true; the input reads as it did. -/
def linePutsSpec : ChangeSpec := { name := "linePuts", fn := fun _ => fun
  | [d1, d2, d3] => { results := [.lit (.bool true)], args := [d1, d2, d3] }
  | _ => none }
def linePutsRow : OpenClaim := { program := "ytkhdnaopdhnkaaadoor", sum := "531233b76831f9af618611b1f18a47dbfd433005c6d17bcfde3b3e8f189e66eb", func := "scrollback/scrollbacklaw06.LinePuts", spec := "linePuts", inPlace := ["internal/abi.NoEscape"], unfollowed := true, recurses := true, named := ["scrollback/width.marks", "scrollback/width.wide"], apart := false, laid := [("scrollback/width.marks", laid_scrollback_width_marks), ("scrollback/width.wide", laid_scrollback_width_wide)] }
def LinePutsSaid : Prop := linePutsRow.holds Tryd.pinned (OpenSpec.ofChange linePutsSpec)

/-- ITS FALSE NEIGHBOUR: 'it returns false'. Refute it at one input. -/
def linePutsWrong : ChangeSpec := { name := "linePuts", fn := fun _ => fun
  | [d1, d2, d3] => { results := [.lit (.bool false)], args := [d1, d2, d3] }
  | _ => none }
def LinePutsWrongFalsely : Prop := linePutsRow.holds Tryd.pinned (OpenSpec.ofChange linePutsWrong)

/-- 'scrollbacklaw06.LineLongs': WHATEVER THE INPUT: true; the input reads as it did. -/
def lineLongsSpec : ChangeSpec := { name := "lineLongs", fn := fun _ => fun
  | [d1, d2] => { results := [.lit (.bool true)], args := [d1, d2] }
  | _ => none }
def lineLongsRow : OpenClaim := { program := "ytkhdnaopdhnkaaadoor", sum := "531233b76831f9af618611b1f18a47dbfd433005c6d17bcfde3b3e8f189e66eb", func := "scrollback/scrollbacklaw06.LineLongs", spec := "lineLongs", inPlace := ["internal/abi.NoEscape"], unfollowed := true, recurses := true, named := ["scrollback/width.marks", "scrollback/width.wide"], apart := false, laid := [("scrollback/width.marks", laid_scrollback_width_marks), ("scrollback/width.wide", laid_scrollback_width_wide)] }
def LineLongsSaid : Prop := lineLongsRow.holds Tryd.pinned (OpenSpec.ofChange lineLongsSpec)

/-- ITS FALSE NEIGHBOUR: 'it returns false'. Refute it at one input. -/
def lineLongsWrong : ChangeSpec := { name := "lineLongs", fn := fun _ => fun
  | [d1, d2] => { results := [.lit (.bool false)], args := [d1, d2] }
  | _ => none }
def LineLongsWrongFalsely : Prop := lineLongsRow.holds Tryd.pinned (OpenSpec.ofChange lineLongsWrong)

/-- 'scrollbacklaw06.LineHolds': WHATEVER THE INPUT: true; the input reads as it did. -/
def lineHoldsSpec : ChangeSpec := { name := "lineHolds", fn := fun _ => fun
  | [d1, d2, d3, d4] => { results := [.lit (.bool true)], args := [d1, d2, d3, d4] }
  | _ => none }
def lineHoldsRow : OpenClaim := { program := "ytkhdnaopdhnkaaadoor", sum := "531233b76831f9af618611b1f18a47dbfd433005c6d17bcfde3b3e8f189e66eb", func := "scrollback/scrollbacklaw06.LineHolds", spec := "lineHolds", inPlace := ["internal/abi.NoEscape"], unfollowed := true, recurses := true, named := ["scrollback/width.marks", "scrollback/width.wide"], apart := false, laid := [("scrollback/width.marks", laid_scrollback_width_marks), ("scrollback/width.wide", laid_scrollback_width_wide)] }
def LineHoldsSaid : Prop := lineHoldsRow.holds Tryd.pinned (OpenSpec.ofChange lineHoldsSpec)

/-- ITS FALSE NEIGHBOUR: 'it returns false'. Refute it at one input. -/
def lineHoldsWrong : ChangeSpec := { name := "lineHolds", fn := fun _ => fun
  | [d1, d2, d3, d4] => { results := [.lit (.bool false)], args := [d1, d2, d3, d4] }
  | _ => none }
def LineHoldsWrongFalsely : Prop := lineHoldsRow.holds Tryd.pinned (OpenSpec.ofChange lineHoldsWrong)

/- THE SECOND FORM. 'bulk': how many values and letters a reading holds, each counted each time it is reached (what is shared counts as often as it is met; a slice's spare places count too). A statement '..UptoSaid' is the law's where the arguments, and the package variables that the reading takes, are together of bulk at most 1048576: NARROWER than '..Said'. Prove '..Said' where nothing that the law and all that it calls make is longer than what came in: it says more and counts as full. Else prove '..UptoSaid'. A law counts once. -/
mutual
def uptoBulk {H : Type} : DataW H → Nat
  | .lit (.string bytes) => bytes.length + 1
  | .lit _ => 1
  | .nil => 1
  | .ptr d => uptoBulk d + 1
  | .slice elems spare => uptoBulkAll elems + uptoBulkAll spare + 1
  | .agg parts => uptoBulkAll parts + 1
  | .iface _ d => uptoBulk d + 1
  | .map entries => uptoBulkEntries entries + 1
  | .held _ => 1
def uptoBulkAll {H : Type} : List (DataW H) → Nat
  | [] => 0
  | d :: r => uptoBulk d + uptoBulkAll r
def uptoBulkEntries {H : Type} : List (Lit × DataW H) → Nat
  | [] => 0
  | x :: r => uptoBulkEntry x + uptoBulkEntries r
def uptoBulkEntry {H : Type} : Lit × DataW H → Nat
  | (.string bytes, d) => bytes.length + uptoBulk d + 1
  | (_, d) => uptoBulk d + 1
 end
def uptoSmall : (H : Type) → List (DataW H) → Bool := fun _ ds => decide (uptoBulkAll ds ≤ 1048576)
def OpenSpec.upto (s : _root_.Go.ChangeSpec) : _root_.Go.OpenSpec := { _root_.Go.OpenSpec.ofChange s with cond := some uptoSmall }

/-- 'scrollbacklaw06.LineNew', WHERE WHAT IT READS IS OF BULK AT MOST 1048576: true; the input reads as it did. -/
def lineNewUptoRow : OpenClaim := { program := "ytkhdnaopdhnkaaadoor", sum := "531233b76831f9af618611b1f18a47dbfd433005c6d17bcfde3b3e8f189e66eb", func := "scrollback/scrollbacklaw06.LineNew", spec := "lineNew", inPlace := ["internal/abi.NoEscape"], unfollowed := true, recurses := true, named := ["scrollback/width.marks", "scrollback/width.wide"], apart := false, laid := [("scrollback/width.marks", laid_scrollback_width_marks), ("scrollback/width.wide", laid_scrollback_width_wide)], narrowed := true }
def LineNewUptoSaid : Prop := lineNewUptoRow.holds Tryd.pinned (OpenSpec.upto lineNewSpec)

/-- 'scrollbacklaw06.LineLooks', WHERE WHAT IT READS IS OF BULK AT MOST 1048576: true; the input reads as it did. -/
def lineLooksUptoRow : OpenClaim := { program := "ytkhdnaopdhnkaaadoor", sum := "531233b76831f9af618611b1f18a47dbfd433005c6d17bcfde3b3e8f189e66eb", func := "scrollback/scrollbacklaw06.LineLooks", spec := "lineLooks", inPlace := ["internal/abi.NoEscape"], unfollowed := true, recurses := true, named := ["scrollback/width.marks", "scrollback/width.wide"], apart := false, laid := [("scrollback/width.marks", laid_scrollback_width_marks), ("scrollback/width.wide", laid_scrollback_width_wide)], narrowed := true }
def LineLooksUptoSaid : Prop := lineLooksUptoRow.holds Tryd.pinned (OpenSpec.upto lineLooksSpec)

/-- 'scrollbacklaw06.LineFits', WHERE WHAT IT READS IS OF BULK AT MOST 1048576: true; the input reads as it did. -/
def lineFitsUptoRow : OpenClaim := { program := "ytkhdnaopdhnkaaadoor", sum := "531233b76831f9af618611b1f18a47dbfd433005c6d17bcfde3b3e8f189e66eb", func := "scrollback/scrollbacklaw06.LineFits", spec := "lineFits", inPlace := ["internal/abi.NoEscape"], unfollowed := true, recurses := true, named := ["scrollback/width.marks", "scrollback/width.wide"], apart := false, laid := [("scrollback/width.marks", laid_scrollback_width_marks), ("scrollback/width.wide", laid_scrollback_width_wide)], narrowed := true }
def LineFitsUptoSaid : Prop := lineFitsUptoRow.holds Tryd.pinned (OpenSpec.upto lineFitsSpec)

/-- 'scrollbacklaw06.LinePuts', WHERE WHAT IT READS IS OF BULK AT MOST 1048576: true; the input reads as it did. -/
def linePutsUptoRow : OpenClaim := { program := "ytkhdnaopdhnkaaadoor", sum := "531233b76831f9af618611b1f18a47dbfd433005c6d17bcfde3b3e8f189e66eb", func := "scrollback/scrollbacklaw06.LinePuts", spec := "linePuts", inPlace := ["internal/abi.NoEscape"], unfollowed := true, recurses := true, named := ["scrollback/width.marks", "scrollback/width.wide"], apart := false, laid := [("scrollback/width.marks", laid_scrollback_width_marks), ("scrollback/width.wide", laid_scrollback_width_wide)], narrowed := true }
def LinePutsUptoSaid : Prop := linePutsUptoRow.holds Tryd.pinned (OpenSpec.upto linePutsSpec)

/-- 'scrollbacklaw06.LineLongs', WHERE WHAT IT READS IS OF BULK AT MOST 1048576: true; the input reads as it did. -/
def lineLongsUptoRow : OpenClaim := { program := "ytkhdnaopdhnkaaadoor", sum := "531233b76831f9af618611b1f18a47dbfd433005c6d17bcfde3b3e8f189e66eb", func := "scrollback/scrollbacklaw06.LineLongs", spec := "lineLongs", inPlace := ["internal/abi.NoEscape"], unfollowed := true, recurses := true, named := ["scrollback/width.marks", "scrollback/width.wide"], apart := false, laid := [("scrollback/width.marks", laid_scrollback_width_marks), ("scrollback/width.wide", laid_scrollback_width_wide)], narrowed := true }
def LineLongsUptoSaid : Prop := lineLongsUptoRow.holds Tryd.pinned (OpenSpec.upto lineLongsSpec)

/-- 'scrollbacklaw06.LineHolds', WHERE WHAT IT READS IS OF BULK AT MOST 1048576: true; the input reads as it did. -/
def lineHoldsUptoRow : OpenClaim := { program := "ytkhdnaopdhnkaaadoor", sum := "531233b76831f9af618611b1f18a47dbfd433005c6d17bcfde3b3e8f189e66eb", func := "scrollback/scrollbacklaw06.LineHolds", spec := "lineHolds", inPlace := ["internal/abi.NoEscape"], unfollowed := true, recurses := true, named := ["scrollback/width.marks", "scrollback/width.wide"], apart := false, laid := [("scrollback/width.marks", laid_scrollback_width_marks), ("scrollback/width.wide", laid_scrollback_width_wide)], narrowed := true }
def LineHoldsUptoSaid : Prop := lineHoldsUptoRow.holds Tryd.pinned (OpenSpec.upto lineHoldsSpec)

end Rows
end Go.Proofs.YtkhdnaopdhnkaaaDoor
