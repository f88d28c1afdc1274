/- Contract of the fixed answers of layer 1's statements. -/
import Derived.Test.YtipjbgkfhkidkaaWordE
namespace Go.Proofs.Ytipjbgkfhkidkaa
open Go.RowKit

end Go.Proofs.Ytipjbgkfhkidkaa
