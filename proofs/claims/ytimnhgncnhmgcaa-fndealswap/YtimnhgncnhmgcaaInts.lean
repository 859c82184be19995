/- Slices of numbers (their walks lie in IntsF). -/
import Derived.Test.YtimnhgncnhmgcaaLawPut
import Derived.Test.YtimnhgncnhmgcaaSpecRun
import Derived.Test.YtimnhgncnhmgcaaIntsF
