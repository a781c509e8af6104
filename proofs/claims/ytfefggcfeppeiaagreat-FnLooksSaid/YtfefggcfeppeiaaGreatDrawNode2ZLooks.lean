/- The model's copy of a node, beside the draws. -/
import Derived.Test.YtfefggcfeppeiaaGreatQLooksf
