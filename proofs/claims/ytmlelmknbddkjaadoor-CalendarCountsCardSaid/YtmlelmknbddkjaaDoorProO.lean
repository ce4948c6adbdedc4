/-
  All that the laws of layer 4 ask of the program.
-/
import Derived.Test.YtmlelmknbddkjaaDoorProE
import Derived.Test.YtmlelmknbddkjaaDoorProN
namespace Go.Proofs.YtmlelmknbddkjaaDoor
open Go.RowKit

theorem calOk : CalOk where
  date t w _ hb := dateP_x t w hb
  day y m d w hy _ _ hb := dayP_x y m d w hb hy
  weekday t w _ _ := weekdayQ_x t w
  addM t n w _ hn hb := addMP_x t n w hb hn
  isOpen nm o c v3 v4 v5 C t w h _ hb := openP_x nm o c v3 v4 v5 C t w h hb
  next nm o c v3 v4 v5 C t w h _ hb := NextP_x nm o c v3 v4 v5 C t w h hb
  plus nm o c v3 v4 v5 C t n w h _ _ hb := PlusP_x nm o c v3 v4 v5 C t n w h hb
  count nm o c v3 v4 v5 C a b w h _ _ hb := CountP_x nm o c v3 v4 v5 C a b w h hb

end Go.Proofs.YtmlelmknbddkjaaDoor
