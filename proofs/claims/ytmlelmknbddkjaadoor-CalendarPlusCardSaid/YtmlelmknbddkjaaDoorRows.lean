/-
  NARROWER THAN 'FOR EVERY INPUT', by the rows' own cells (each row's printed sentence says how): CalendarTells: laid · CalendarBack: laid · CalendarMonths: laid · CalendarNext: laid · CalendarPlus: laid · CalendarCounts: laid.
  DERIVED. THE GIVEN ROWS OF THIS SEAT. 6 by the template 'for every input the law returns true; each argument reads behind the call as it read before'; 0 by the template 'total and deterministic' (their statements: YtmlelmknbddkjaaDoorTotals.lean).
  GIVEN WITH THE SEED: the statements are not yours to turn. If you find one false, say at which input.
  Laid BY PROGRAM, IN A SANDBOX (cutbox-rows.mjs): the forced cells as the released guide's own fill.sh prints them over the translation bbdebbf5ec438181… (all of the seat's roots in one cut). By AI agents, Wed Nov 11 2026. No macro, syntax, notation, axiom, sorry.
-/
import Derived.Test.YtmlelmknbddkjaaDoorChecked
import GoSem.Claim
import GoSem.ClaimJoined
import GoSem.ClaimMapViews
import Derived.JoinedTies
import Derived.KernelRfl
namespace Go.Proofs.YtmlelmknbddkjaaDoor
/- THE CELL 'sum', in the pinned program and in every row, IS THE sha256 OF THE DUMP (.gsa) THAT YtmlelmknbddkjaaDoorProg.lean LOADS. Nothing in Lean hashes anything: it is a label: what it is worth is what the hold of that sum in a sandbox is worth. -/
noncomputable def Tryd.pinned : Pinned := { name := "ytmlelmknbddkjaadoor", sum := "bbdebbf5ec438181de849438877335bfb966b168263994843fe694b59fb3aa75", checked := Tryd.checked }
namespace Rows
def none {H : Type} : Left H := { results := [], args := [] }

/- WHAT THE LISTED PACKAGE-LEVEL VARIABLES READ AS WHEN THE CALL BEGINS. Each datum BY PROGRAM (the guide's laid-datum.mjs) off the statement by which the dump's own 'gosem.cut.vars' lays the variable. In a bare row this is a premise. The card (YtmlelmknbddkjaaDoorCards.lean) ties it to the program's text. -/
def laid_allonge_calendar_before {H : Type} : DataW H := .agg [.lit (.int .i64 0), .lit (.int .i64 31), .lit (.int .i64 59), .lit (.int .i64 90), .lit (.int .i64 120), .lit (.int .i64 151), .lit (.int .i64 181), .lit (.int .i64 212), .lit (.int .i64 243), .lit (.int .i64 273), .lit (.int .i64 304), .lit (.int .i64 334)]

/-- 'allongelaw04.CalendarTells': WHATEVER THE INPUT: true; the input reads as it did. -/
def calendarTellsSpec : ChangeSpec := { name := "calendarTells", fn := fun _ => fun
  | [d1, d2, d3, d4, d5, d6, d7] => { results := [.lit (.bool true)], args := [d1, d2, d3, d4, d5, d6, d7] }
  | _ => none }
def calendarTellsRow : OpenClaim := { program := "ytmlelmknbddkjaadoor", sum := "bbdebbf5ec438181de849438877335bfb966b168263994843fe694b59fb3aa75", func := "allonge/allongelaw04.CalendarTells", spec := "calendarTells", unfollowed := true, recurses := true, named := ["allonge/calendar.before"], apart := false, laid := [("allonge/calendar.before", laid_allonge_calendar_before)] }
def CalendarTellsSaid : Prop := calendarTellsRow.holds Tryd.pinned (OpenSpec.ofChange calendarTellsSpec)

/-- ITS FALSE NEIGHBOUR: 'it returns false'. Refute it at one input. -/
def calendarTellsWrong : ChangeSpec := { name := "calendarTells", fn := fun _ => fun
  | [d1, d2, d3, d4, d5, d6, d7] => { results := [.lit (.bool false)], args := [d1, d2, d3, d4, d5, d6, d7] }
  | _ => none }
def CalendarTellsWrongFalsely : Prop := calendarTellsRow.holds Tryd.pinned (OpenSpec.ofChange calendarTellsWrong)

/-- 'allongelaw04.CalendarBack': WHATEVER THE INPUT: true; the input reads as it did. -/
def calendarBackSpec : ChangeSpec := { name := "calendarBack", fn := fun _ => fun
  | [d1, d2, d3, d4] => { results := [.lit (.bool true)], args := [d1, d2, d3, d4] }
  | _ => none }
def calendarBackRow : OpenClaim := { program := "ytmlelmknbddkjaadoor", sum := "bbdebbf5ec438181de849438877335bfb966b168263994843fe694b59fb3aa75", func := "allonge/allongelaw04.CalendarBack", spec := "calendarBack", unfollowed := true, recurses := true, named := ["allonge/calendar.before"], apart := false, laid := [("allonge/calendar.before", laid_allonge_calendar_before)] }
def CalendarBackSaid : Prop := calendarBackRow.holds Tryd.pinned (OpenSpec.ofChange calendarBackSpec)

/-- ITS FALSE NEIGHBOUR: 'it returns false'. Refute it at one input. -/
def calendarBackWrong : ChangeSpec := { name := "calendarBack", fn := fun _ => fun
  | [d1, d2, d3, d4] => { results := [.lit (.bool false)], args := [d1, d2, d3, d4] }
  | _ => none }
def CalendarBackWrongFalsely : Prop := calendarBackRow.holds Tryd.pinned (OpenSpec.ofChange calendarBackWrong)

/-- 'allongelaw04.CalendarMonths': WHATEVER THE INPUT: true; the input reads as it did. -/
def calendarMonthsSpec : ChangeSpec := { name := "calendarMonths", fn := fun _ => fun
  | [d1, d2, d3, d4] => { results := [.lit (.bool true)], args := [d1, d2, d3, d4] }
  | _ => none }
def calendarMonthsRow : OpenClaim := { program := "ytmlelmknbddkjaadoor", sum := "bbdebbf5ec438181de849438877335bfb966b168263994843fe694b59fb3aa75", func := "allonge/allongelaw04.CalendarMonths", spec := "calendarMonths", unfollowed := true, recurses := true, named := ["allonge/calendar.before"], apart := false, laid := [("allonge/calendar.before", laid_allonge_calendar_before)] }
def CalendarMonthsSaid : Prop := calendarMonthsRow.holds Tryd.pinned (OpenSpec.ofChange calendarMonthsSpec)

/-- ITS FALSE NEIGHBOUR: 'it returns false'. Refute it at one input. -/
def calendarMonthsWrong : ChangeSpec := { name := "calendarMonths", fn := fun _ => fun
  | [d1, d2, d3, d4] => { results := [.lit (.bool false)], args := [d1, d2, d3, d4] }
  | _ => none }
def CalendarMonthsWrongFalsely : Prop := calendarMonthsRow.holds Tryd.pinned (OpenSpec.ofChange calendarMonthsWrong)

/-- 'allongelaw04.CalendarNext': WHATEVER THE INPUT: true; the input reads as it did. -/
def calendarNextSpec : ChangeSpec := { name := "calendarNext", fn := fun _ => fun
  | [d1, d2] => { results := [.lit (.bool true)], args := [d1, d2] }
  | _ => none }
def calendarNextRow : OpenClaim := { program := "ytmlelmknbddkjaadoor", sum := "bbdebbf5ec438181de849438877335bfb966b168263994843fe694b59fb3aa75", func := "allonge/allongelaw04.CalendarNext", spec := "calendarNext", unfollowed := true, recurses := true, named := ["allonge/calendar.before"], apart := false, laid := [("allonge/calendar.before", laid_allonge_calendar_before)] }
def CalendarNextSaid : Prop := calendarNextRow.holds Tryd.pinned (OpenSpec.ofChange calendarNextSpec)

/-- ITS FALSE NEIGHBOUR: 'it returns false'. Refute it at one input. -/
def calendarNextWrong : ChangeSpec := { name := "calendarNext", fn := fun _ => fun
  | [d1, d2] => { results := [.lit (.bool false)], args := [d1, d2] }
  | _ => none }
def CalendarNextWrongFalsely : Prop := calendarNextRow.holds Tryd.pinned (OpenSpec.ofChange calendarNextWrong)

/-- 'allongelaw04.CalendarPlus': WHATEVER THE INPUT: true; the input reads as it did. -/
def calendarPlusSpec : ChangeSpec := { name := "calendarPlus", fn := fun _ => fun
  | [d1, d2, d3, d4] => { results := [.lit (.bool true)], args := [d1, d2, d3, d4] }
  | _ => none }
def calendarPlusRow : OpenClaim := { program := "ytmlelmknbddkjaadoor", sum := "bbdebbf5ec438181de849438877335bfb966b168263994843fe694b59fb3aa75", func := "allonge/allongelaw04.CalendarPlus", spec := "calendarPlus", unfollowed := true, recurses := true, named := ["allonge/calendar.before"], apart := false, laid := [("allonge/calendar.before", laid_allonge_calendar_before)] }
def CalendarPlusSaid : Prop := calendarPlusRow.holds Tryd.pinned (OpenSpec.ofChange calendarPlusSpec)

/-- ITS FALSE NEIGHBOUR: 'it returns false'. Refute it at one input. -/
def calendarPlusWrong : ChangeSpec := { name := "calendarPlus", fn := fun _ => fun
  | [d1, d2, d3, d4] => { results := [.lit (.bool false)], args := [d1, d2, d3, d4] }
  | _ => none }
def CalendarPlusWrongFalsely : Prop := calendarPlusRow.holds Tryd.pinned (OpenSpec.ofChange calendarPlusWrong)

/-- 'allongelaw04.CalendarCounts': WHATEVER THE INPUT: true; the input reads as it did. -/
def calendarCountsSpec : ChangeSpec := { name := "calendarCounts", fn := fun _ => fun
  | [d1, d2, d3, d4, d5] => { results := [.lit (.bool true)], args := [d1, d2, d3, d4, d5] }
  | _ => none }
def calendarCountsRow : OpenClaim := { program := "ytmlelmknbddkjaadoor", sum := "bbdebbf5ec438181de849438877335bfb966b168263994843fe694b59fb3aa75", func := "allonge/allongelaw04.CalendarCounts", spec := "calendarCounts", unfollowed := true, recurses := true, named := ["allonge/calendar.before"], apart := false, laid := [("allonge/calendar.before", laid_allonge_calendar_before)] }
def CalendarCountsSaid : Prop := calendarCountsRow.holds Tryd.pinned (OpenSpec.ofChange calendarCountsSpec)

/-- ITS FALSE NEIGHBOUR: 'it returns false'. Refute it at one input. -/
def calendarCountsWrong : ChangeSpec := { name := "calendarCounts", fn := fun _ => fun
  | [d1, d2, d3, d4, d5] => { results := [.lit (.bool false)], args := [d1, d2, d3, d4, d5] }
  | _ => none }
def CalendarCountsWrongFalsely : Prop := calendarCountsRow.holds Tryd.pinned (OpenSpec.ofChange calendarCountsWrong)

/- THE SECOND FORM. 'bulk': how many values and letters a reading holds, each counted each time it is reached (what is shared counts as often as it is met; a slice's spare places count too). A statement '..UptoSaid' is the law's where the arguments, and the package variables that the reading takes, are together of bulk at most 1048576: NARROWER than '..Said'. Prove '..Said' where nothing that the law and all that it calls make is longer than what came in: it says more and counts as full. Else prove '..UptoSaid'. A law counts once. -/
mutual
def uptoBulk {H : Type} : DataW H → Nat
  | .lit (.string bytes) => bytes.length + 1
  | .lit _ => 1
  | .nil => 1
  | .ptr d => uptoBulk d + 1
  | .slice elems spare => uptoBulkAll elems + uptoBulkAll spare + 1
  | .agg parts => uptoBulkAll parts + 1
  | .iface _ d => uptoBulk d + 1
  | .map entries => uptoBulkEntries entries + 1
  | .held _ => 1
def uptoBulkAll {H : Type} : List (DataW H) → Nat
  | [] => 0
  | d :: r => uptoBulk d + uptoBulkAll r
def uptoBulkEntries {H : Type} : List (Lit × DataW H) → Nat
  | [] => 0
  | x :: r => uptoBulkEntry x + uptoBulkEntries r
def uptoBulkEntry {H : Type} : Lit × DataW H → Nat
  | (.string bytes, d) => bytes.length + uptoBulk d + 1
  | (_, d) => uptoBulk d + 1
 end
def uptoSmall : (H : Type) → List (DataW H) → Bool := fun _ ds => decide (uptoBulkAll ds ≤ 1048576)
def OpenSpec.upto (s : _root_.Go.ChangeSpec) : _root_.Go.OpenSpec := { _root_.Go.OpenSpec.ofChange s with cond := some uptoSmall }

/-- 'allongelaw04.CalendarTells', WHERE WHAT IT READS IS OF BULK AT MOST 1048576: true; the input reads as it did. -/
def calendarTellsUptoRow : OpenClaim := { program := "ytmlelmknbddkjaadoor", sum := "bbdebbf5ec438181de849438877335bfb966b168263994843fe694b59fb3aa75", func := "allonge/allongelaw04.CalendarTells", spec := "calendarTells", unfollowed := true, recurses := true, named := ["allonge/calendar.before"], apart := false, laid := [("allonge/calendar.before", laid_allonge_calendar_before)], narrowed := true }
def CalendarTellsUptoSaid : Prop := calendarTellsUptoRow.holds Tryd.pinned (OpenSpec.upto calendarTellsSpec)

/-- 'allongelaw04.CalendarBack', WHERE WHAT IT READS IS OF BULK AT MOST 1048576: true; the input reads as it did. -/
def calendarBackUptoRow : OpenClaim := { program := "ytmlelmknbddkjaadoor", sum := "bbdebbf5ec438181de849438877335bfb966b168263994843fe694b59fb3aa75", func := "allonge/allongelaw04.CalendarBack", spec := "calendarBack", unfollowed := true, recurses := true, named := ["allonge/calendar.before"], apart := false, laid := [("allonge/calendar.before", laid_allonge_calendar_before)], narrowed := true }
def CalendarBackUptoSaid : Prop := calendarBackUptoRow.holds Tryd.pinned (OpenSpec.upto calendarBackSpec)

/-- 'allongelaw04.CalendarMonths', WHERE WHAT IT READS IS OF BULK AT MOST 1048576: true; the input reads as it did. -/
def calendarMonthsUptoRow : OpenClaim := { program := "ytmlelmknbddkjaadoor", sum := "bbdebbf5ec438181de849438877335bfb966b168263994843fe694b59fb3aa75", func := "allonge/allongelaw04.CalendarMonths", spec := "calendarMonths", unfollowed := true, recurses := true, named := ["allonge/calendar.before"], apart := false, laid := [("allonge/calendar.before", laid_allonge_calendar_before)], narrowed := true }
def CalendarMonthsUptoSaid : Prop := calendarMonthsUptoRow.holds Tryd.pinned (OpenSpec.upto calendarMonthsSpec)

/-- 'allongelaw04.CalendarNext', WHERE WHAT IT READS IS OF BULK AT MOST 1048576: true; the input reads as it did. -/
def calendarNextUptoRow : OpenClaim := { program := "ytmlelmknbddkjaadoor", sum := "bbdebbf5ec438181de849438877335bfb966b168263994843fe694b59fb3aa75", func := "allonge/allongelaw04.CalendarNext", spec := "calendarNext", unfollowed := true, recurses := true, named := ["allonge/calendar.before"], apart := false, laid := [("allonge/calendar.before", laid_allonge_calendar_before)], narrowed := true }
def CalendarNextUptoSaid : Prop := calendarNextUptoRow.holds Tryd.pinned (OpenSpec.upto calendarNextSpec)

/-- 'allongelaw04.CalendarPlus', WHERE WHAT IT READS IS OF BULK AT MOST 1048576: true; the input reads as it did. -/
def calendarPlusUptoRow : OpenClaim := { program := "ytmlelmknbddkjaadoor", sum := "bbdebbf5ec438181de849438877335bfb966b168263994843fe694b59fb3aa75", func := "allonge/allongelaw04.CalendarPlus", spec := "calendarPlus", unfollowed := true, recurses := true, named := ["allonge/calendar.before"], apart := false, laid := [("allonge/calendar.before", laid_allonge_calendar_before)], narrowed := true }
def CalendarPlusUptoSaid : Prop := calendarPlusUptoRow.holds Tryd.pinned (OpenSpec.upto calendarPlusSpec)

/-- 'allongelaw04.CalendarCounts', WHERE WHAT IT READS IS OF BULK AT MOST 1048576: true; the input reads as it did. -/
def calendarCountsUptoRow : OpenClaim := { program := "ytmlelmknbddkjaadoor", sum := "bbdebbf5ec438181de849438877335bfb966b168263994843fe694b59fb3aa75", func := "allonge/allongelaw04.CalendarCounts", spec := "calendarCounts", unfollowed := true, recurses := true, named := ["allonge/calendar.before"], apart := false, laid := [("allonge/calendar.before", laid_allonge_calendar_before)], narrowed := true }
def CalendarCountsUptoSaid : Prop := calendarCountsUptoRow.holds Tryd.pinned (OpenSpec.upto calendarCountsSpec)

end Rows
end Go.Proofs.YtmlelmknbddkjaaDoor
