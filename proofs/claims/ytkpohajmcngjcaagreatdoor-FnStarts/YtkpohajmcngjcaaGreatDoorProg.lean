-- MADE BY PROGRAM (prog-in-parts.mjs): THE LOAD, out of its parts: the constants and facts that the one row below made, under the same names. The row stands here as a remark: the kit's tools read the dump's path and the alias off it.
-- load_go "../../toys/ytkpohajmcngjcaagreatdoor/ytkpohajmcngjcaagreatdoor.cut.gsa" as Tryz
import Derived.Test.YtkpohajmcngjcaaGreatDoorCheckedLc
import Derived.Test.YtkpohajmcngjcaaGreatDoorCheckedLf0
import Derived.Test.YtkpohajmcngjcaaGreatDoorCheckedLf1
import Derived.Test.YtkpohajmcngjcaaGreatDoorCheckedLf2
import Derived.Test.YtkpohajmcngjcaaGreatDoorCheckedLf3
