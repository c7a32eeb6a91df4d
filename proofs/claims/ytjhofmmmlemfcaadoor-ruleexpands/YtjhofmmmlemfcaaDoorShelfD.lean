/- Nothing besides the shelf. -/
import Derived.Test.YtjhofmmmlemfcaaDoorShelf
