/- Contracts of the model's WorstDays and of the program's AddDay. -/
import Derived.Test.YtochohoihmfanaaStW
namespace Go.Proofs.Ytochohoihmfanaa.StI
open Go.RowKit Kit Rw Rg Stm Md StormS

def slen : Value → Nat
  | .slice _ n _ => n
  | _ => 0
end Go.Proofs.Ytochohoihmfanaa.StI
