-- MADE BY PROGRAM (prog-in-parts.mjs): THE LOAD, out of its parts: the constants and facts that the one row below made, under the same names. The row stands here as a remark: the kit's tools read the dump's path and the alias off it.
-- load_go "../../toys/ytppiilbcnkphbaadoor/ytppiilbcnkphbaadoor.cut.gsa" as Tryd
import Derived.Test.YtppiilbcnkphbaaDoorCheckedLc
import Derived.Test.YtppiilbcnkphbaaDoorCheckedLf0
import Derived.Test.YtppiilbcnkphbaaDoorCheckedLf1
import Derived.Test.YtppiilbcnkphbaaDoorCheckedLf2
import Derived.Test.YtppiilbcnkphbaaDoorCheckedLf3
