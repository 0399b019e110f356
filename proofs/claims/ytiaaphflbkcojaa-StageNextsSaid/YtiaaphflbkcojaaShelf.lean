/- This seat calls no function of the library that has a contract on the shelf. -/
import Derived.Test.YtiaaphflbkcojaaProg
