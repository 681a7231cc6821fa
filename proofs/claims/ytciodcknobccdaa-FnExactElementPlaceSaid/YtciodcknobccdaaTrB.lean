/- Contracts of the model's turns and moves. Conditions: the orientation is in 0..7 and the coordinates are small. -/
import Derived.Test.YtciodcknobccdaaTrA
namespace Go.Proofs.Ytciodcknobccdaa
open Go.RowKit
set_option linter.unusedVariables false
set_option linter.unusedSimpArgs false

def tX (o x y : Int) : Int := if o = 0 then x else if o = 1 then -y else if o = 2 then -x else if o = 3 then y else if o = 4 then x else if o = 5 then y else if o = 6 then -x else -y
def tY (o x y : Int) : Int := if o = 0 then y else if o = 1 then x else if o = 2 then -y else if o = 3 then -x else if o = 4 then -y else if o = 5 then x else if o = 6 then y else -x


def rX (j : Nat) (x y : Int) : Int := match j with | 0 => x | 1 => -y | 2 => -x | _ => y
def rY (j : Nat) (x y : Int) : Int := match j with | 0 => y | 1 => x | 2 => -y | _ => -x

end Go.Proofs.Ytciodcknobccdaa
