/- lampbearerref.WLess: the order of words, by their bytes. -/
import Derived.Test.YtblodmjnhmfjeaaLArith
import Derived.Test.YtblodmjnhmfjeaaLawSums
namespace Go.Proofs.Ytblodmjnhmfjeaa
open Go.RowKit Go.Shelf
attribute [local go_sem ↓] Go.wp_at_zero Go.wp_at_succ

end Go.Proofs.Ytblodmjnhmfjeaa
