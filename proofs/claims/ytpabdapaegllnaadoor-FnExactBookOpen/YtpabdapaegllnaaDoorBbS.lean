/- A balance asked (spec.BookBalance): what the call does. -/
import Derived.Test.YtpabdapaegllnaaDoorBbW
namespace Go.Proofs.YtpabdapaegllnaaDoor
open Go.RowKit
open Go.Proofs.YtpabdapaegllnaaDoor.Draw

end Go.Proofs.YtpabdapaegllnaaDoor
