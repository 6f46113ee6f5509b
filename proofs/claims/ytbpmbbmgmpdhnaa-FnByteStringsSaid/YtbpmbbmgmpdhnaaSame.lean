/- All of the laws' comparisons. -/
import Derived.Test.YtbpmbbmgmpdhnaaSameB
import Derived.Test.YtbpmbbmgmpdhnaaSameI
import Derived.Test.YtbpmbbmgmpdhnaaBig
import Derived.Test.YtbpmbbmgmpdhnaaAt
