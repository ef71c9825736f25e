/- What opens a law's arguments that are a flash with its room, records, lists of records. -/
import Derived.Test.YtanpglfpopbfkaaOpenD
import Derived.Test.YtanpglfpopbfkaaOpenR
