package hustings

import "hustings/api"

func configurationMayBe(c api.Config) bool {
	peers := len(c.Peers)
	if !within(peers, 1, api.MaxPeers) || !within(c.Wait, 1, api.MaxWait) ||
		!within(c.Lease, api.MinLease, api.MaxLease) || !within(c.Net, 1, api.MaxNet) {
		return false
	}
	for _, first := range c.Peers {
		if !credentialMayBe(first, peers) {
			return false
		}
	}
	return true
}

// credentialMayBe: whether it may be of one of so many peers.
func credentialMayBe(c api.Credential, peers int) bool {
	return within(c.Promised, 0, api.MaxEpoch) && within(c.Epoch, 0, c.Promised) &&
		within(c.To, 0, peers-1) && within(c.News, 0, api.MaxNews)
}

func within(n, least, greatest int) bool { return least <= n && n <= greatest }
