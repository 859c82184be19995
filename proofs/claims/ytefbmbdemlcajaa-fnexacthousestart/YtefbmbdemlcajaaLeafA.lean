/- The smallest functions: what each call answers. -/
import Derived.Test.YtefbmbdemlcajaaLeafI
namespace Go.Proofs.Ytefbmbdemlcajaa
open Go.RowKit

def valB (n : Int) : Bool := inB n (-9999) 9999
def keyB (n : Int) : Bool := inB n 0 31

end Go.Proofs.Ytefbmbdemlcajaa
