/- The model's copy of a node, beside the draws. -/
import Derived.Test.YtfefggcfeppeiaaDrawNodeZPages
import Derived.Test.YtfefggcfeppeiaaQPagesd
