/- Layer 16: the program's contracts together. -/
import Derived.Test.YtjnonngnkkdmdaaP16D
