/- The program's texts of hubs: IsHub, HubText, ReadHub. -/
import Derived.Test.YtcphhcnomaociabDoorReadHub2
import Derived.Test.YtcphhcnomaociabDoorTab
import Derived.Test.YtcphhcnomaociabDoorMax
import Derived.Test.YtcphhcnomaociabDoorHubSmall
import Derived.Test.YtcphhcnomaociabDoorHubTW
import Derived.Test.YtcphhcnomaociabDoorHubTR
namespace Go.Proofs.YtcphhcnomaociabDoor
end Go.Proofs.YtcphhcnomaociabDoor
