/- What opens a law's arguments that are a flash with its room, records, lists of records. -/
import Derived.Test.YtmmkpaljjghhbaaOpenD
import Derived.Test.YtmmkpaljjghhbaaOpenR
