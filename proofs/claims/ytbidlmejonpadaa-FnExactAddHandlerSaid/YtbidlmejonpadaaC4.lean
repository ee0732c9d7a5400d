/-
  TREES changed: the program's SetQuiet, changedLogger, SetLevel, SetStop, SetOff.
-/
import Derived.Test.YtbidlmejonpadaaC3
namespace Go.Proofs.Ytbidlmejonpadaa
open Go.RowKit Nm
set_option linter.unusedSimpArgs false
set_option linter.unusedVariables false

theorem enters {f : FuncId} {fn : Func} {c : Code} (hf : Try.prog.funcs[f]? = some fn) (hname : (fn.name == "runtime.NumGoroutine") = false) (hb : fn.body = some c) (args : Array Value) (w : World) :
    (callFunc f args).run Try.prog w = .ok (.enter f args) w := by
  have h1 : fn.name ≠ "runtime.NumGoroutine" := by simpa using hname
  simp [callFunc, hf, h1, hb]

def setQuietX (L : List Lgr) (H : List Hnd) (q lv : Int) : Option TreeD := changedO L H q (some (L, H, lv))

end Go.Proofs.Ytbidlmejonpadaa
