/-
  The values of the examples of journal's laws.
-/
import Derived.Test.YtemldlhhlneleaaDoorJlB
namespace Go.Proofs.YtemldlhhlneleaaDoor.Jn
open Go.RowKit Dk Wi

def e0 : D := (newV 5).1
def ea : D := (fmV e0).1
def eb : D := (appV ea [97, 98]).1
def ec : D := (appV eb []).1
def ex : D := (armV ec 1).1
def ey : D := (appV ex [99]).1
def ez : D := (stV ey).1
set_option maxRecDepth 100000
theorem v0 : newV 5 = (e0, 0) := Prod.ext rfl (by decide +kernel)
theorem va : fmV e0 = (ea, 0) := Prod.ext rfl (by decide +kernel)
theorem vn : allV e0 = ([], 22) := by decide +kernel
theorem vb : appV ea [97, 98] = (eb, 0) := Prod.ext rfl (by decide +kernel)
theorem vc : appV eb [] = (ec, 0) := Prod.ext rfl (by decide +kernel)
theorem vl : allV ec = ([[97, 98], []], 0) := by decide +kernel
theorem vx : armV ec 1 = (ex, 0) := Prod.ext rfl (by decide +kernel)
theorem vy : appV ex [99] = (ey, 8) := Prod.ext rfl (by decide +kernel)
theorem vz : stV ey = (ez, 0) := Prod.ext rfl (by decide +kernel)
theorem vm : allV ez = ([[97, 98], []], 0) := by decide +kernel
theorem vg : (getV ec 0).1.data.toList = [97, 98] ∧ (getV ec 0).2 = 0 := by decide +kernel
theorem sh0 : e0.secs.length = 5 ∧ e0.pend.length = 0 ∧ e0.left = -1 ∧ e0.down = false ∧ checkB e0 = true := by decide +kernel
theorem sha : ea.secs.length = 5 ∧ ea.pend.length = 0 ∧ ea.left = -1 ∧ ea.down = false ∧ checkB ea = true := by decide +kernel
theorem shb : eb.secs.length = 5 ∧ eb.pend.length = 0 ∧ eb.left = -1 ∧ eb.down = false ∧ checkB eb = true := by decide +kernel
theorem shc : ec.secs.length = 5 ∧ ec.pend.length = 0 ∧ ec.left = -1 ∧ ec.down = false ∧ checkB ec = true := by decide +kernel
theorem shx : ex.secs.length = 5 ∧ ex.pend.length = 0 ∧ ex.left = 1 ∧ ex.down = false ∧ checkB ex = true := by decide +kernel
theorem shy : ey.secs.length = 5 ∧ ey.pend.length = 0 ∧ ey.left = -1 ∧ ey.down = true ∧ checkB ey = true := by decide +kernel
theorem shz : ez.secs.length = 5 ∧ ez.pend.length = 0 ∧ ez.left = -1 ∧ ez.down = false ∧ checkB ez = true := by decide +kernel

end Go.Proofs.YtemldlhhlneleaaDoor.Jn
