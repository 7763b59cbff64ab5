import Derived.Test.YtakaadcpaeiccabGreatGA
import Derived.Deep.QuietTactic
import Derived.BigQuiet
namespace Go.Proofs.YtakaadcpaeiccabGreat
open Go.RowKit

end Go.Proofs.YtakaadcpaeiccabGreat
