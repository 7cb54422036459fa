/- A door to the evaluator. -/
import Derived.Test.YtllmdpfngmbjgaaDoorKE
