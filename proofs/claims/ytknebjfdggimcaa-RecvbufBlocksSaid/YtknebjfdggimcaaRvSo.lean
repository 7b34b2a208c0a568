/- Recvbuf: slices.SortFunc, laid. -/
import Derived.Test.YtknebjfdggimcaaRvL
import Derived.Shelf.SlSortCmp.WholeK
import Derived.Shelf.SlicesG.Cmp
import Derived.Shelf.Lay
import Derived.Ground.SlsfProg
import Derived.Ground.SlgcProg
namespace Go.Proofs
open Go.Shelf Go.RowKit Go.Lib Go.Sort
shelf_lay_g SlLaysF0.n6 Slsf 6 at Try 36 as sortSp
shelf_lay_g SlLaysC2.n5 Slgc 5 at Try 38 as cmpSp
end Go.Proofs
