-- MADE BY PROGRAM (prog-in-parts.mjs): THE LOAD, out of its parts: the constants and facts that the one row below made, under the same names. The row stands here as a remark: the kit's tools read the dump's path and the alias off it.
-- load_go "../../toys/ytkfahghcbkdafaadoor/ytkfahghcbkdafaadoor.cut.gsa" as Tryd
import Derived.Test.YtkfahghcbkdafaaDoorCheckedLc
import Derived.Test.YtkfahghcbkdafaaDoorCheckedLf0
import Derived.Test.YtkfahghcbkdafaaDoorCheckedLf1
import Derived.Test.YtkfahghcbkdafaaDoorCheckedLf2
import Derived.Test.YtkfahghcbkdafaaDoorCheckedLf3
