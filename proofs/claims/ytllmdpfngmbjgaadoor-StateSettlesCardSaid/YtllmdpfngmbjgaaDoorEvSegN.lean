/- A door to the evaluator. -/
import Derived.Test.YtllmdpfngmbjgaaDoorKC
