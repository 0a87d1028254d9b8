/- A stand-in: what the digest's texts need lies in BA here. No conditions. -/
import Derived.Test.YtlcdkponegmcdaaDoorBA
