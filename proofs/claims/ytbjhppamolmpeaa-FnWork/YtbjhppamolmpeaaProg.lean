-- MADE BY PROGRAM (prog-in-parts.mjs): THE LOAD, out of its parts: the constants and facts that the one row below made, under the same names. The row stands here as a remark: the kit's tools read the dump's path and the alias off it.
-- load_go "../../toys/ytbjhppamolmpeaa/ytbjhppamolmpeaa.cut.gsa" as Try
import Derived.Test.YtbjhppamolmpeaaCheckedLc
import Derived.Test.YtbjhppamolmpeaaCheckedLf0
import Derived.Test.YtbjhppamolmpeaaCheckedLf1
import Derived.Test.YtbjhppamolmpeaaCheckedLf2
import Derived.Test.YtbjhppamolmpeaaCheckedLf3
