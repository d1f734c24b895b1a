-- MADE BY PROGRAM (prog-in-parts.mjs): THE LOAD, out of its parts: the constants and facts that the one row below made, under the same names. The row stands here as a remark: the kit's tools read the dump's path and the alias off it.
-- load_go "../../toys/ytppiilbcnkphbaagreat/ytppiilbcnkphbaagreat.cut.gsa" as Tryz
import Derived.Test.YtppiilbcnkphbaaGreatCheckedLc
import Derived.Test.YtppiilbcnkphbaaGreatCheckedLf0
import Derived.Test.YtppiilbcnkphbaaGreatCheckedLf1
import Derived.Test.YtppiilbcnkphbaaGreatCheckedLf2
import Derived.Test.YtppiilbcnkphbaaGreatCheckedLf3
