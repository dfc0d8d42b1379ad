
/- Taking a text, and texts. -/
import Derived.Test.YtoeibjflaiiljaaDoorMath3
namespace Pk
def takeText (s : List UInt8) (p : Int) : List UInt8 × Nat × Nat :=
  if (takeNum s p).2.2 ≠ 0 then ([], 0, (takeNum s p).2.2)
  else if s.length - (takeNum s p).2.1 < (takeNum s p).1 then ([], 0, 10)
  else ((s.drop (takeNum s p).2.1).take (takeNum s p).1, (takeNum s p).2.1 + (takeNum s p).1, 0)
end Pk
