import Derived.Test.YtpfnfglaokiipabH4
import Derived.Test.YtpfnfglaokiipabK1
import Derived.Test.YtpfnfglaokiipabL5
/- (has and its kin are in H4) -/
namespace Go.Proofs.Ytpfnfglaokiipab
end Go.Proofs.Ytpfnfglaokiipab
