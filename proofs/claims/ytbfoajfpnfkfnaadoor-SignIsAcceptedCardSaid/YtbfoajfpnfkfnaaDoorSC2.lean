import Derived.Test.YtbfoajfpnfkfnaaDoorSG
/-
  Plain facts, no program: the example of layer 3, computed by the kernel (the chains).
-/
set_option linter.unusedVariables false
namespace Go.Proofs.YtbfoajfpnfkfnaaDoor
def sIL : List Nat := [4259976902, 956406494, 3210043920, 1952588099, 736576898, 1860271899, 3849510473, 2461207492]
def sOL : List Nat := [2720719968, 2704661654, 2843490174, 1638021793, 2098679701, 2136642029, 2673818627, 2726556759]
noncomputable def eqW (a b : List Nat) : Bool := match a, b with
  | [], [] => true
  | x :: a, y :: b => Nat.beq x y && eqW a b
  | _, _ => false
theorem eqW_eq : ∀ {a b : List Nat}, eqW a b = true → a = b
  | [], [], _ => rfl
  | [], _ :: _, h => by cases h
  | _ :: _, [], h => by cases h
  | x :: a, y :: b, h => by
    have h' : (Nat.beq x y && eqW a b) = true := h
    rw [Bool.and_eq_true] at h'
    rw [Nat.eq_of_beq_eq_true h'.1, eqW_eq h'.2]
set_option maxRecDepth 100000 in
theorem sI_lit : sI = sIL := eqW_eq (by kernel_rfl)
set_option maxRecDepth 100000 in
theorem sO_lit : sO = sOL := eqW_eq (by kernel_rfl)
def tab00 : List (Nat × Nat × Nat × Nat) := [
  (0x9fa49fc81345647bfd4bc60fe0da4fe0, 0x2550eb105769a8725be8b98e0bee0884, 0x77c563d559bccfdd78916b1be1eacc10, 0x6ac932140bbb6f781ac3d948835cfb9b),
  (0x4ce5c200d2be0a31b9178d9a9e6b161f, 0x14e54502282b5bdfedca772012c9c574, 0x83fc26054dabc46a36b6eabf0a3a3ac4, 0x789deeb47161e6b9e0cea0729973bdf1),
  (0x370d1339f99973c5201dbb36f7721a36, 0x49d5f28c5031669a12234ee84899c0f7, 0x71a9fdb16c72079d3da42c569e3af1cd, 0x2755837dc1d0a5c6b5b4d5ecf07b7a17),
  (0x6cdfcb7a2536133a50109906340f049d, 0x3bdc16048593cf2a0b52b1b72f251866, 0x719e9283762586aa1e976884a0beefe1, 0x79322b6162e86b66d3cd64f529350e47),
  (0x6bab16eb56e49027446c7354215826da, 0x3a213ada353c83ffd4764a136f07f98a, 0x0deb47b2a47f741b0a049fd9b0dafef9, 0x02c0a622c3837d27dfc03fff66911a8a),
  (0xfc91acf8361a759522bb903295d26a27, 0xd0022dea3d015a633e33e2e1d86d7277, 0xebdc1f4b55dcccb38142569380ca9948, 0x5e1f2d2da9aa6db523c551e07a79b1de),
  (0xbd8341d76ff75b740f2cf1cfe26a422a, 0xb11d501ebb70245b9a54622cac4dec6c, 0x9d19f171bd241f5df4cac0f0270f760f, 0xf35f5915502218e0b5713fca00c255f0),
  (0x6b4888cc532518e1c1f496739caea948, 0x14b1b310c6117e86b3598f4a9a1f3be2, 0xe0947a9090ebb4d80f581a553268ec3d, 0x80d6897ce467d48012eebbd4c9565203),
  (0x8e9ce526cb6bfb15f483831a8fb41d30, 0xb1b0d9ef241272057b0e19be8600a980, 0x0523a7551e2b30e54a6a45536662e849, 0xeb584bd179c49e1880a0b963461c6a00),
  (0x9a6fda19978c3b137154b2fcf1514ea9, 0x83a02750241acfeed542c93279e9e400, 0x9be3e108bab7a5e8ce236acce9422861, 0x2fa7e178dc7103ff15ddf2b9919800ad),
  (0x82676449ae25c6717127a19866f15293, 0x0f92ff0eefbcae8c556f0606417ed44a, 0x3ea58f926926b6504651f7cd45c994a2, 0xeb9299cae9508cac7ce428b6c81e75a7),
  (0x4f814c86d15c147b8e4074865b34ecd5, 0x7ee841049ac71ca927b0763d71253c3a, 0x6ddceed10a166740a313fa2dc4cc83a6, 0x4ff448e6ce867e8d44cee791ae8981da),
  (0x710d7f93380897b270877bc38417d321, 0xd980ad7604fd4864b5da64efa3e29839, 0x7a23277702529969732c8c92b9927150, 0xf37706b245bf2bad7422a18f8f17afa5),
  (0xd225fb61042b2e6e1fff9289f9c111c2, 0xc732d2ab3e9664ffb62e2d68863e1f5e, 0x85bcb8cbd6a7529190e51549ac4c4765, 0x52299f25eeb13f92b2bac36333535383),
  (0xb4192f19dc169f3b016f8b8f449b6861, 0x16dc3fc6dada19d82120fd77cb1871ab, 0x7b34cb72972a261009194082036024c9, 0x53555fe5e29146b07362d49a3284ed4a),
  (0x5d1b6f8751f88a3e3e6b88d6c409c895, 0x55fb64f55f50048a7556e5d27c039816, 0x60529ed0c137780a8bc5ea4afc13c464, 0xcd196f4bb96b03224d4f376147d5cbca),
  (0x0533e8e1fcb96bb7771ca450cca79eea, 0xd508b32ad9df47bfc6df89f6d9f32d82, 0xc764951f5ddbf20ced0a42aadbc328ac, 0x6ea6b566f2e25242e95ea02639c1ca8a)]
set_option maxRecDepth 100000 in
theorem tab00_ok : chkT sIL sOL 0 0 tab00 = true := by kernel_rfl
def tab01 : List (Nat × Nat × Nat × Nat) := [
  (0xdf7132d51dd8668f4307f814faec222f, 0x7853a6b89d5d5d4fa3b690720b849970, 0x861aeb4a7dafb82cbefa85b3dfe957ea, 0x93d657850730f64051212f9f976b3362),
  (0xe27e666ef03a994685a1ae1b9379fd76, 0x9395af99c015660170a72fef84efe418, 0x0802aace169cf203d5b60fb5b662125b, 0xf92926b1977b18b95671e72b0ac420ac),
  (0xcb47d3e374ab743f137f9ab24f3935d4, 0xb85c55536908960c1cfad7aad13b05d5, 0x2303bb897fe08df6c0406c0f9a15bb54, 0x3d94ca0ea10cf4c90c989251f36ceda5),
  (0x79e84fbfbd498dcadec0bb7e746bb7b1, 0x8e43c6dd737f34d95b68f34225970062, 0x2c092b55eb0b1b4b6889f600ec5d77c8, 0x11b2791e4cd14df66a00bc82e0f7855c),
  (0x964920334cf7e95e2e6a8e51509d6b15, 0x00a88d42cc182cb7ffb1bf1c30a17379, 0x5cad93b0ddb33d7249ea0e8a5e8e4495, 0xa456bc817a337e26a417cbe0ef7377c3),
  (0xe4fbb796f17cfca01eeac9b82d273246, 0x8a0c5662633e5a1b4aceed5da00255da, 0xdf5903f311ccdcd9e3a851868de4e6c5, 0x745668c4df3edb99f7169834cf141e37),
  (0x68e0071f34a8d2f1d1097fe5bf22293c, 0xd8a5a57a02d8d267dab2cefce8483ac2, 0x81a88ea84a831ba8138eea54a7c1d559, 0x3c883587da1012b7ba2a54973fe2a985),
  (0x843ec1dd8739312c36d675ab1b3a5157, 0x48d6872ae8c4c8fd8f4b145ca0cf17cc, 0x5154e09068a24a4252cac204c5a7538b, 0x94420985b0046470f0d62b2fcf3d9c60),
  (0xdf62171273d373e763643cda44a12eca, 0x8a92aff6b3f0e184f326f0866c248589, 0x5c33123cd3f6442ed8a595e524b57c17, 0xc557fc6a82e5d050daa4a3428fbe7e80),
  (0xb6c5be87c58e3e7635b8a1181787ad83, 0xa947ce11c718c03f374f4b1b39bf81ae, 0x939b861fe2088d46644267e48f6d1285, 0x0827b972489e7de6fcc3aee954dc077a),
  (0x69c049efeb6fb59a70c02f1676ddd769, 0x12a42b6244e0536199342405cff1915f, 0x35831d1d56fe84a00ff678cd3efdf82c, 0xf3500eeb29fcccd830c133449b947cd4),
  (0x48aa62092d34bdf439ec89444e79524f, 0xf1435346658aba4398c625ea18fd365f, 0x7d12322b7059a9116b5669f5c9f05f35, 0x6d830748f526b14bb68320e372328438),
  (0xf611fa9136ed7dee71d25603b12852f3, 0x196653f17644bccaf26260b87f654cee, 0x97875972cab0679ea3f69d7bfa6b3bcd, 0x0f930b3b694c70f9cccadaba349ec9d5),
  (0x3c30ca71aedfd5d9ca66cc4f34fc1912, 0x54d2ad9805d0214bc7d5867c5cafa424, 0x9a86ec80aecef62f17a524a5ac449880, 0xd190581b465172e7b959ea0691258698),
  (0x64aaf821de5c14fadb6a81cb3391e80f, 0x5e4af3f61a09788febd8280d424dae44, 0xf46ff468d9486dc36736e09815d6aaf7, 0xc118d763d4893bc118e0421a36c0722d),
  (0xfc681cc641ef7fb7356ab46415bd08bd, 0x48b9a79995ab01b2747d03a426bb01f0, 0xdd6fd52b4774c76a5e189598067b72d8, 0x2c99ce378f7ebaf22d11ce91c0e87ec4),
  (0xfa56381ba9efce3d2a8d6fae1cc24519, 0x682285240069d22ecf296bfab56d7cb7, 0x2d300b1202f319424795bec974418a5e, 0xbbafaf30b813668ca8b4391730cd2a39)]
set_option maxRecDepth 100000 in
theorem tab01_ok : chkT sIL sOL 0 17 tab01 = true := by kernel_rfl
def tab02 : List (Nat × Nat × Nat × Nat) := [
  (0x185c619d1e84b1be1a3c44e938e67af1, 0xe32b43e7ac654d73ee715ffc88f0814c, 0x5c8af2e19ac75f274da1b8aee711788e, 0x03a8c03a10ed5b3ac9aedbcc4d1a3c6c),
  (0xf159b120158da66f8aa64d8437a8f7d3, 0x46a8cd91b2d12be1ca00977d3bd57f9d, 0xa40952ac3265f0cffffbcdc40a27daad, 0x1cfa5d44eaeb2a2fdfbcd5b415483e65),
  (0x919e5eac928c4b2741b9b046c1f7041e, 0x3d1cd4f9f44e00d24612afa1356b464e, 0xb4d6311178d4a4bbb85d27d411807061, 0x295d61e1ebf07044517a1831407395ef),
  (0xd5f292509deaf69e726aa1d1f746e297, 0xa1870ac38b319a272268b0e1e66cfac0, 0xc2363c6217a8aa8168a0448b0e71ea72, 0x02b68b7fa4ea107f5ab9f011d8c165a7),
  (0x8648259c3e7301514c1745a6ebc3d18d, 0x634a5b2640cecc62f50e96c9ce4485a7, 0x278b7398073bfe3b8410ba8a669dd007, 0x278a63f1f71e1f1ff41acfb22dbd8215),
  (0x1e356793a57482eaf13d1941886a79f9, 0x6b983a3aa0d65e874b35d60a0fff0f0d, 0x182795542146340b622edc3c97633cff, 0x469a2b1f24c77653881aaf228af76bb0),
  (0xe70bddd411880495d36659ba7e254295, 0xd300e345180f5ea0816c87475f0e65a1, 0x9d89d911ab8cbe5a5ee2ba75cc140058, 0x961d9ae89fc54ebc1e25e3ecc279d32d),
  (0xaf6a9faf17aa2c59a3cad0cc1d0b4303, 0x3dec337c0b3e5fd1affe19a2779563bc, 0xe608ccbf61b45893506b429b2bb9c710, 0xb440057788ae147aa5c07b73d97ab3aa),
  (0x84da5d8c6d21ab678e1882e4bd371bbb, 0x11a16d8c4c59f85f4d1804d3d7d07277, 0x53e39135db992633dafe570844a879dc, 0x8ca6230c1bffd2ad28ea58110e802264),
  (0xdc62a78794bec41c51579ab7b1490079, 0x65e90c6e181685281130b02321897b8d, 0x31b09c50d2a042d5e92b199b7c600b1a, 0x4057f267d04731f8b1f7b572d4d44a6f),
  (0x43ab44518e135a880a725498f71764c3, 0x124b6aa42d2c3ba23fed68a3d1240649, 0x107b707a7765592bff0e74d8c1d98515, 0x2022b6a8a6ea9e85987a5813a31d1d90),
  (0xb3a9a01d8b9ec472691b9a6da055375f, 0x5c94dd307f8ca0b66a145bd2119b6eb3, 0xdd2ca185511a3e1c9b96e1250baf7255, 0x6c96e551b6c72026d0700c5a53d2edc9),
  (0xb88aff3b878f0866658c75dddb96dd8a, 0x1d671dc207d40398b4e624519873fab7, 0xc1f14406915fc3c52c8fbc1526bc0adf, 0x57bf1e16298987272b78603b550465c0),
  (0x8b30e0bc8bc7f02fbdacf41286c45551, 0x9a02059250c5d8fc6a7813f9068a2c2e, 0xecd96942133fea1f7fa321a4ed3f82eb, 0xa1062f32c1988dd065829114bfb06dae),
  (0xde717b35db00be25a323c5f5a3e5e0b6, 0xf6e3d8445b8a7d63c7d0cd46f8ad8007, 0x6dfe91a27297ebdfcc9906e8906b37fc, 0x8cc3c62715f796a722b0a12e8702aac5),
  (0x9ec046d6bba70769e7ff4d424b7834ad, 0xc55cd0e1fa05b66d701ba1282f101b3a, 0x227741fd1872bde2bee1abc73572d269, 0x4274fb7f54b3b856cc673f31da9a67e1),
  (0x46fd0eb33e24ef5ca96c4d7206b3734c, 0x544e87d3051265dc0127df4d3eeb44b5, 0xc3ee2deef17db96cb07ec3ef83c37279, 0x27eb422e9adf258ab021f7c944b1e7a8)]
set_option maxRecDepth 100000 in
theorem tab02_ok : chkT sIL sOL 0 34 tab02 = true := by kernel_rfl
def tab03 : List (Nat × Nat × Nat × Nat) := [
  (0xb6dd090ed381194052c63a47192cb70e, 0x720611844ae8fe2edada6b9ed8957dd7, 0x9e0a005cd77ba896cf7104ec6bd620f3, 0x2733846f60c9e4eaa1c2779c7118a501),
  (0x73391ea1d37bb30d2bc55be668b91f90, 0x8dd592dd4a3187bee28a7ee82b60b90f, 0x5283bf47a0b7ecacff4ba28f4ecdb365, 0x029aa7a49abeddc9eea64c106de8f156),
  (0x48e86ffb7bcb0e91a02ce30e4f429ac1, 0x71c9405b33f458e75ecc7c0cd758c959, 0x9b5aafb6bfc59ed6d4cabdb237d47961, 0xa4be2b36ddffcb6267b3cc8e94e10c17),
  (0x3ec9a9e7ad4680aa2fb73e65b4e3b9a6, 0xa959e49ff948505bb844295a220683ed, 0x3172fda4419002250572eb302a321c65, 0xed3feec17ec9dba318dbdf4089ee996b),
  (0x5248a14040b49ebe471d587a773e238b, 0x3fbd1ac5eb85533199dccfd4b03df0d0, 0x32fddffa6d1d33ec051aa336c180b23d, 0x1d64312d31c0d21accc01728b727972d),
  (0xcf5f124cd10cd4f94d43b3147e280825, 0x211ba7f9ece80cfa7b38c5169a9bdd83, 0xc3301fe282e11b545ce82cb76b6a2bcc, 0x2039bd6d18865e5eb120d0129a253816),
  (0xbb921e562d8f538a98f66af9f6a6282d, 0x09cb717eb38dfd401bf1a52bac379399, 0xcac9c771c2c29417124447d33a0dca51, 0x3cb887ed25b6c7f7af0327629667df6f),
  (0xe4d39df054d7f49c09c3ce12c4aeb13f, 0x78683517c29807e98c61f6e89baa8721, 0x3c161f8692e280cfe44a4786830475ed, 0x51a32b182a596fc182aa7cdcf901f5f6),
  (0xf9efed7beff91fb7fbfeccf40a1bd036, 0xe865a1a2078db5806f2f75fb3eac576e, 0xff1110f991c89f7f7f51870e9987d2b3, 0x4cb0eaec45d8d3e93e9d5d176acbad18),
  (0x3e6f1622b46e6b3decdb4d4445fd1f19, 0x3c5ed5c70807b5fe75b9218971bb452a, 0x23df55b4c622d3c4616a0dd04fcaca62, 0x0c9b26c9b6d0e07e91299a122d5e234c),
  (0xb38fac35e4ab3f32a56c158b7224a2a7, 0xfef9276abd28016f9346b4a4cf9af8cd, 0x89e3ce10537fd24cf5166235d95b6634, 0xd0e05109a199a6f112c6f20696a893bd),
  (0xfa2b56483ed6f2418c394148ca4c5031, 0x9c9686d800a12afc5026645252e875d9, 0x18d1b1c61a46c861297172706f7f4296, 0xe0c0cb7f04a0da34f93347e339cca56c),
  (0xe0205d7c62560ea2ac866156c1bacc89, 0x0784c912eef1f6ae0ceca33490df9696, 0x2955838cdc8a228ad5829b70eaf72633, 0xf0687c4146ecfaa7c2502a93036d36d5),
  (0x0aa745b3ed4b8981be6900b54927409d, 0x53b624bbab5faf4bc9db723c0da1d5dc, 0xcdb97684304d9368f1f560a09eb31faa, 0xd9ea64468869e58591450d238788ca77),
  (0x8636cb2b06b014bc601109b9053aa79a, 0xbe357a7898a55940ba78a42ea24677d3, 0xfe8b614342042de0c0a40fddedece0d6, 0x595665195acfbff850d41f62f64e7504),
  (0x3b7c64a0d4b29333ae6f743baefc1bca, 0x62b1809d5ef11a8f507ddd24c0025193, 0xe85e8fa0957c967974f47276bbed1219, 0x0aa1eed4a1154eadf9e5e0dddde827cd),
  (0xca99981e0a70eaaf7a50829cb6ee802f, 0x176390d489cf2ef406bd99e34e9e04c2, 0x7cb7b644afbfae848b963afa26b0b55d, 0x7346b537c33c6b417b227a2335ff6178)]
set_option maxRecDepth 100000 in
theorem tab03_ok : chkT sIL sOL 0 51 tab03 = true := by kernel_rfl
def tab10 : List (Nat × Nat × Nat × Nat) := [
  (0xce42d8960449f8e7e53916078bcaec61, 0x15971431ba63fa7c69f775a91c3b084e, 0xf073de17ac97e2a1d8a25832cb97ffd8, 0xa3126c19e6c05e40f7bcbc2387b37235),
  (0x07ec2ce26c59c5e17fbb484f926b7b4b, 0xac44dea02a822a51717f56790c4a0830, 0x31f10d1d297a3e5d10f96ae54b7fb453, 0x81b15eeca74884ebdd88f0fc7a96e947),
  (0xea9c1585b500baa01a20bc3988cbdda0, 0x9efabdcb854ee78b68d0cb23a5736b43, 0xf95746c325df05565ca24b4687f1c91e, 0xf84cda387891c6cf06e8669b3f060491),
  (0x35781b4e099b88bae3a11e308609ede0, 0x160b4efae1de6d139f22c26069757280, 0x499676e2f69710534795e7eb0bbf03ed, 0x0b4f9c5cc274c862822b932de4fa1b84),
  (0x728fdd98d8a23e0c222218a3abae4291, 0x4e8f06e3d8f4e9407c8d2275cf260916, 0x8ee9a6ffe9c35884c260204c35c4ae41, 0x81d66821b1582897e1e77adcda3ae1fa),
  (0xd74a5baac650ed90bfb517f63f4f347e, 0x2ba8e3780e7a25cbc7be200a49395685, 0xf8e0ecab7aa7b96e2cb85d8565a383f0, 0x73bf4bc4a7b60b43f32162f165ed2b39),
  (0x7b5814df05440f6b5b60f0b1dca7a8fc, 0xf2dc3fd0a6ab3541a0331ddf3732f2d3, 0x19d2040402cd03823ceecc1b45c0ba59, 0x3ef20185d30998a6b564e01885477b7d),
  (0x31124f246e664cf094549c256590550e, 0x91508e07a60febd98bb8362664cf7070, 0x6f9bae97c8c3c4f715bb88c052016068, 0x89954b7b7c8364962a94394d4770af33),
  (0x06c6ad9f8eb3f8c4a9513928084d20d8, 0x12b3a2666f1d7cd3d04a27e818217792, 0xf0c272e4e5f8b683f2c17b53edf40db2, 0x9f524d92dbdf57e875c0dc11f9a084dd),
  (0x8ff687bb03901c2e25c22357b3a5e2ab, 0xe7cacb324443fad4705a305328fb2da6, 0xe17a1bfc0b79a3f60cd78746ea9c14af, 0x19f510940268f5eab5dce7a843d56eca),
  (0xebe859b064f574653065f5f28afb3977, 0xcaa7b91ed1936835022cab6cd41cb473, 0x542109282e75a99cf9eefb6a65f92f52, 0x8486c074902ae3a897b053d9fb067689),
  (0xcdad733975aa5b22af3b7fb46b031639, 0x97368aa9a4173667739dae17e48ed32f, 0x908f436bf305615c29c7f8e3c0b711f4, 0x6678221cfeb7d12d698333654d5da2f7),
  (0xa2b0e90771bc7ffa09f9ec4d88b83841, 0xddb3562812ae370e69f4ff164b2c90cc, 0x6849822cf066c5f60b8f16dde01f7d80, 0x5e3bf6161436e922a4e853f777cc9672),
  (0x7c17a45eff54d89291271e312fa00f7d, 0x11390d31b502e9a694bda684b3eaec82, 0x145bfdd9eac1a81da42e93c7e8457e7c, 0x3d2e867d2544ca4b82f6c9d5d4e6c2d4),
  (0x841e354178707bf912ee29461a8bb63b, 0x4a89c680fbbc720dd6ae8880860f0518, 0xa6d1c558fded270d39e65196e8733e1a, 0x6c328c67c0770618f2046f24a6e3564a),
  (0x5dddcf7fafc6a82e801f15b19498b2f7, 0x1a784d9f35ee0cc515277f1c94afd38d, 0x4b3c3d013434d68c0a0cfa0cee056e29, 0x07de8c70297fb35fde811f6feaeb225e),
  (0xaf0f40df4890c75025f94fe4da105a5e, 0xe34e19aaabbfd0f6d99fa4ecfa2140a6, 0xad10c9ba4c40fe5c33eb5753dd645d3d, 0x885c109f09545e7dcf83013987e36875)]
set_option maxRecDepth 100000 in
theorem tab10_ok : chkT sIL sOL 1 0 tab10 = true := by kernel_rfl
def tab11 : List (Nat × Nat × Nat × Nat) := [
  (0x218136cb160405d0206523c32efd3d6e, 0x11097b07d8751a47f901ce8f4c346873, 0xef2b2550420798b48b0bd399d1baa6c8, 0x274c4f1a5bbd158fe5321318c06c50b1),
  (0xc61429d74a569b7ba88dc2622b905031, 0xd3a6b2d941325b2d9bf5210f2bc2a4ee, 0xb29e3c8dc73afea17c36f3176ebc2a40, 0x952cf4bcca59bd8b1ddc975aa1bdca70),
  (0x63515170adfdce4f938c699d3e6a4bbe, 0x723e2c59c97fc0f15a965b88c084c592, 0xd43de99e1661ea7084a46b0469834cdd, 0x89eda3c296de6dfbb2b6e803bbd8db1a),
  (0xf805f567480fe2e4f6445edef8693b8e, 0xcc6230685cab46dcd359293dd482ca64, 0x1fb9bb6a3167ae72cf09b32b012bab60, 0xc3777e80cf15e365cc8362f1d3b447ce),
  (0xc6333c0976238c31203baf5c99463267, 0xbfbfed9897071172c02712d05ae8c034, 0x0cb8eeb952efe5a6b514b2dc7917a813, 0x285fc33b0a7e8879b01887a0a5ecabe0),
  (0x27dd62e2cc0499f97454448821832cd2, 0x9771045d26f9b1a7af085e26afb50ad7, 0xe35b69108b654ae0e9638d35c169ab3f, 0xd6147bc7229cefde47d58ed82f1a10cb),
  (0x24c595b3e018d68bcd8d8dd2c392b296, 0xca6f9b8046cf754aa699b4dcdf93605d, 0x16958d4792d10d44d95482623d2828bd, 0x0a2816e5f3d49dab2827c924d306e5f2),
  (0x9b40c8b24e45249343742643f5545638, 0xacfe5a9c20152def81d429b72d230b9f, 0xbc3f31fa6bdafdf48ec734fb23c1d56b, 0xf03134487be7eeb70cc56d9bb8139e9b),
  (0x3304c2ad28bf1e597ccc803331fdab19, 0xe4628ca7596ed4fd997d245960ba54fb, 0xd3565e9c071ef247c24e9afd67e944b6, 0x753d73d7b4a6cda968f2c6834f15165b),
  (0x1899dafb7c1dbbc6f28f11f438c06dd9, 0xaa0f80fae82cbb39db61fbd5aec84a5b, 0x523b86a9c5064fdc0367637caa52c310, 0x32a2dbfafe40e60d5518e6bd08020b9c),
  (0x055a427b603b09eb590d72d4677b5ed9, 0x6854be09e7253304704ba7bb249f472e, 0xed50d75a985a2f51616af2d90eaaf167, 0xf3ceacaf7076ec307ff62127545c9cd8),
  (0x2a5721ceb3182829d608db8dc2fc9d87, 0xbf24bd1d114cdfdde071658e4dc7b704, 0xdaee971971b947ad57a65c904c8992ba, 0xe70ec4fe92f37b91552225968e196e88),
  (0x651e3b3aa3680c7f708e601a61ef3210, 0xc1c600098c8995fb005e75d41816a101, 0xa605cfcce9f4aeecface8c9b42f65b0f, 0xf131fb11eb149e373626e225f66eb62f),
  (0x071b46c4f0d567c86bf8aa36e7208964, 0x9c46404fb2bc5bd0eb74e01d728cc7b5, 0xa947d340e47d3f7932c4df59b268e363, 0xfdec4c7f4ba69b31e9349d4cbf0e56da),
  (0x3ee2ef8b13bd4d57fa0dbc65c2aa2c0c, 0x0809948cfd4cf3b4c9770bab307c2681, 0x313d65f4b1139498729ab18b299b0ca7, 0x80729e3462b548a41b51c6478dbbd5cf),
  (0x5f8e4d128eb119fb74f8294544d7949d, 0x1b0e54af8967695aac9c9fa10e27d62b, 0xfadd3e731dd5f8ada2a83eede56ac1f7, 0xe3bede0d401544599201b0c231262b34),
  (0xcd715ffd135393c53c1fe7b837894e59, 0xbbd3b3a245ef6c464b9a916c64fe38d6, 0x807d4b92a4ac037302f8bf82f3c54ccc, 0x15af3b5f0d43d127881634e2cec4258b)]
set_option maxRecDepth 100000 in
theorem tab11_ok : chkT sIL sOL 1 17 tab11 = true := by kernel_rfl
def tab12 : List (Nat × Nat × Nat × Nat) := [
  (0xd28721976962f6ee4b8f7490a7bb728d, 0xb77742331261979fbacf2bab21613ccc, 0xe645577265c52f44e47b1998dd8adba7, 0x0ef54125c281b1711f3c641b6323729e),
  (0xa87398f3a4272e573b5e5a0af6f0671e, 0x53deb558554955a13ad0e362606b71db, 0xe844bae819689269b83460cfa3ee3791, 0x7a3b59fc6f3afd17c1d3783795151170),
  (0x0e26a2232f235a54747afb1ef98d8e53, 0xbcbf7c030e8285c00caba3659a98c02e, 0x11fe4efe5a5e02407b306b2caf82c5e3, 0xc6933bf2e2fef02969321ec90543aee2),
  (0x290b00ebb6c5d75b5e044afeb01dbac3, 0xba2206845d91857ee254b5818aec62f4, 0xe48150528bcf00976797806d290087f1, 0xc871f3e3c7c38217a7f9ef7d221446c4),
  (0x685e719a058fe5024c4fa42cd51db8e8, 0x3696bd061646d275c7a4c3c7770756ae, 0xc8fd1ed5f5a0ac29ab9933255811f43f, 0x246ae4cb43f842cf3dca032b9939a867),
  (0x11cac3aae3516e2d6579b62df45a67ad, 0xd424118c32d2c571d203df6ed186d48b, 0x47f4aa8dcf44bbe15be8d6bce810b124, 0xa8660d436e67a4d0a6f2cf715ffa9462),
  (0xc95714268671d72d2562d5cd7988c41e, 0x4b6ff281321f7b86145428b2da7ca446, 0xc281d26aab09b17520dbb47d166af448, 0x52cc14ea28d8a5c47939fe89d21ac23a),
  (0x1003532d9050d86300da29d9abf08054, 0x3e817b26337d4f16955f00cb8733d488, 0x56006e53f30748da947553663cc03d74, 0x10ce170f954b2bf849409aa0e6322860),
  (0xb4fd6be11152c9f9cc748502e85101ca, 0xa16beaba2ac43ed591c818f75a53d6d9, 0x5034bea0bc59828732639675d2a29361, 0xc6efd422ce450d93fa72e6bda755593e),
  (0x995d5098ba35ec8ca2e47a7e991de61f, 0x69228b5ff7baf061b75660ab7a4274f1, 0xba683f321330a0c899906da747f8d072, 0x2ea7641b8196ed4ee89d31c295987be1),
  (0xd8d9a7b4c8c16a4f83312f9388fa5524, 0xbb3aafa6978ee601fcefa3f26cb55bef, 0xaaf0233c11bace6fdc35e9ca2025f58f, 0x07957b24bc923c72b7be9ca2fc7c25ae),
  (0xc4251c584dbaf36b70a986a3a355f3cd, 0x5ecebfed82570bcb0bf9b212fdc91b21, 0xf1b8fac23f6a28dae122029413ebf421, 0xf1cecd9c74a8619b516718e4b40de2fa),
  (0x5dbaf184556cc52818db3fca3dcb40da, 0x2c451cf49151509ba58d1cfa347fe885, 0x628dc46eaf4950cb4178bf729db59b0c, 0x6e3b80e75ffa7775e0a7d4d153099220),
  (0xa2231e4d0023bdc94af57cb287b466fe, 0x5f348345e2fd27778e0b4d8746ab33d7, 0xa07073c3b208fa67bed94b8b603a7c33, 0x3a9566473b71adb4893d72971bd780d7),
  (0x1a198ab0678440d9027b9208cbacd0ed, 0x9aa23e82fa7100c1c7afa881d9c8472e, 0xe64cfaf6fbfd000d35682185881b0b0b, 0x280c1e2e30b1dbe5e36728ac93508def),
  (0x2228e75372a3b8061a468dfa2b1fa49a, 0xc5307cd51d928b4ca5365fd5cfc56a58, 0x601ef7f693e68313afa60373020f2df2, 0x14a83fc0e7e8c2c4c8abdbae8dcaa1ad),
  (0x1f1f532beff6fd808118824b6aad42f2, 0x894a46174e8d29773a05f5c81d310246, 0xe11b3740b78b18f63b475dd1274ede2b, 0x990842476694aad082596cd8da2009df)]
set_option maxRecDepth 100000 in
theorem tab12_ok : chkT sIL sOL 1 34 tab12 = true := by kernel_rfl
def tab13 : List (Nat × Nat × Nat × Nat) := [
  (0xb437ae6c6ec9291c729cac845475fceb, 0xf76f630878fc8c6193a42d13e5c97f4a, 0x2d5aad85947a345dadacac1395a66d43, 0xca60f83c1a48b88fc7aba5eb8b7b7014),
  (0x644da074ff18b4a177332cd94ba9390c, 0xd564cc0f0c5b77fe36949caeebc15c30, 0x55f9a99ad4f1a8963623bf40db51742e, 0xe07b59627df153c5486ac7460289f5b9),
  (0x71d16ccbe0e05d2cd7f3060655fc3514, 0x4646735379423262a5fa59712c96f978, 0x2adf7c8cba708e47b52aa74369ebedaa, 0xc563d2b68a69fc19546b101fd495e588),
  (0x80b1437189a2aa2208d37387494a5f11, 0xdfbbf495177763be2bbb3a85f87d57c4, 0x137fc6e2a1c482436f209d6c77d04991, 0xc884c9d064c1644287983e4819ec9fff),
  (0x68f69f1fdafa18bfe57a5d63bc55de0b, 0x948899750675a82566e6112f1749554e, 0xbfc17955b290524e0732ab7e8ae53f01, 0x68052c4bb974227e19238fe9e5ca4931),
  (0x86d733ed3729aea87db10876b3ffb75c, 0x1839a63d1bcb69a8de357967ffc30f5f, 0x4f8bdced6b7fd8099f1f3f2e9764a1c3, 0xd44b2c9fd3f87ac10710abbbae2aa23b),
  (0x38d353dbd23a9c7116137048b437ff37, 0xc43a6ac12ae3c1891fc700e94c58fc9e, 0x84fb45eefc16dd436b58d676dee6080b, 0x15a12b85145b26ac066fe1fa6fa39ec3),
  (0x3feab5ceac09dfb4518462aa64593a1a, 0x0dbcabead4cba540b069ae11477970bf, 0x401deba765efb75eb40191733fefb9f5, 0xd12cb77be396a281b2a7bbd48e5e7354),
  (0xfbb2a692e77714ae47bf89032c2394b6, 0xb88aea1c8d175ac17ff5dcbb5a7f824e, 0xb397ff82d1b816f1a2ba62681603f340, 0xcdad095ad8bf558da04bfbb83b855204),
  (0x20ecd90e6fa846d714db2e6b11a79518, 0xc09d99e3860a48a3ce18281f415ac028, 0x30833167ceefa79d60c8812af6d85613, 0x1de2f0da8142ca5a61560c478eb9c8f1),
  (0x44ab96a5f25904dcde251cbae4a83048, 0x92a640ace54ca592e7f8fb006e7409d8, 0xd50318fa16c48e779756a96f57bffb36, 0x18e6f671c74cbeb9bdad8bbc2116ed1d),
  (0xf4e928f68ed3639bd7586fb1934a7969, 0x75acb94a47e4eaa2227329b928ee5b48, 0x726f9b791166463f9a87128ff399547d, 0x1f77165e6a9e1584f744965d701a7590),
  (0x3912f0561ba541d78cd2651d57defb44, 0xc13569549b62e66e5577fbbd37d96a0a, 0x11e6c95774c0b7d5ffd3e9fb7879993e, 0x81948383c2763e511e08f1a8cc955177),
  (0xd706efc6f7ad29bf350dba14e4355dd1, 0x0697f3ea22d2f4dc9ae68242f8f01154, 0xf4cffa6730a3a15829601e222ba71d7c, 0x7e5e67390486deb0e1ec5eb6dfc39f5b),
  (0x0e515fae78c7cd1eda500d17a9e89e22, 0x543e04625c11bc608608e7afc87167d8, 0x5b77375fb2be766a826e7aace12467bc, 0x69c37d70ed332d84fb3886309c5ca0f0),
  (0x3cbdbfbb0bffe9d768f71aa320041f41, 0x75d8b4021f406939880e2c2e8f011313, 0xf38fd7918205a95af6423bfa2bda01dd, 0xd03cc429c81a9354687ea1b90198770c),
  (0x7643818617a2b32d93432b7f9ddb346e, 0xa74d13e150fc658694de4370d2c306b5, 0x5f7d24eca3b1854e9e9a130fed673104, 0xc5c16d822b5e73dcd3503ced314e0cad)]
set_option maxRecDepth 100000 in
theorem tab13_ok : chkT sIL sOL 1 51 tab13 = true := by kernel_rfl
end Go.Proofs.YtbfoajfpnfkfnaaDoor
/-
  Plain facts, no program: the example of layer 3, computed by the kernel (the rest).
-/
set_option linter.unusedVariables false
namespace Go.Proofs.YtbfoajfpnfkfnaaDoor
open Go.RowKit
def tab0 : List (Nat × Nat × Nat × Nat) := tab00 ++ (tab01 ++ (tab02 ++ tab03))
def tab1 : List (Nat × Nat × Nat × Nat) := tab10 ++ (tab11 ++ (tab12 ++ tab13))
theorem tab_len {i k : Nat} (T : List (Nat × Nat × Nat × Nat)) (h : T.length = 17) (hi : i < 65536) (hk : k < 4) (hc : chkT sIL sOL i (17 * k) T = true) : ∀ j r, T[j]? = some r → RowOk i (17 * k + j) r := fun j r hr => chkT_ok sI_lit sO_lit hi T (17 * k) (by omega) hc j r hr
theorem four {i : Nat} {T0 T1 T2 T3 : List (Nat × Nat × Nat × Nat)} (l0 : T0.length = 17) (l1 : T1.length = 17) (l2 : T2.length = 17)
    (h0 : ∀ j r, T0[j]? = some r → RowOk i (17 * 0 + j) r) (h1 : ∀ j r, T1[j]? = some r → RowOk i (17 * 1 + j) r) (h2 : ∀ j r, T2[j]? = some r → RowOk i (17 * 2 + j) r) (h3 : ∀ j r, T3[j]? = some r → RowOk i (17 * 3 + j) r) :
    ∀ c r, (T0 ++ (T1 ++ (T2 ++ T3)))[c]? = some r → RowOk i c r := by
  intro c r h
  by_cases a0 : c < 17
  · rw [List.getElem?_append_left (by omega)] at h
    have := h0 c r h; rwa [show 17 * 0 + c = c by omega] at this
  · rw [List.getElem?_append_right (by omega), l0] at h
    by_cases a1 : c - 17 < 17
    · rw [List.getElem?_append_left (by omega)] at h
      have := h1 _ r h; rwa [show 17 * 1 + (c - 17) = c by omega] at this
    · rw [List.getElem?_append_right (by omega), l1] at h
      by_cases a2 : c - 17 - 17 < 17
      · rw [List.getElem?_append_left (by omega)] at h
        have := h2 _ r h; rwa [show 17 * 2 + (c - 17 - 17) = c by omega] at this
      · rw [List.getElem?_append_right (by omega), l2] at h
        have := h3 _ r h; rwa [show 17 * 3 + (c - 17 - 17 - 17) = c by omega] at this
theorem row0 : ∀ c r, tab0[c]? = some r → RowOk 0 c r := four rfl rfl rfl (tab_len tab00 rfl (by decide) (by decide) tab00_ok) (tab_len tab01 rfl (by decide) (by decide) tab01_ok) (tab_len tab02 rfl (by decide) (by decide) tab02_ok) (tab_len tab03 rfl (by decide) (by decide) tab03_ok)
theorem row1 : ∀ c r, tab1[c]? = some r → RowOk 1 c r := four rfl rfl rfl (tab_len tab10 rfl (by decide) (by decide) tab10_ok) (tab_len tab11 rfl (by decide) (by decide) tab11_ok) (tab_len tab12 rfl (by decide) (by decide) tab12_ok) (tab_len tab13 rfl (by decide) (by decide) tab13_ok)
theorem tab0_len : tab0.length = 68 := rfl
theorem tab1_len : tab1.length = 68 := rfl
def sel (r : Nat × Nat × Nat × Nat) : Nat → Nat
  | 0 => r.1
  | 1 => r.2.1
  | 2 => r.2.2.1
  | _ => r.2.2.2
theorem up_row {i c : Nat} {r : Nat × Nat × Nat × Nat} (h : RowOk i c r) : ∀ d, d ≤ 3 → up i c d 0 (st0 sd5 i c) = unp (sel r d)
  | 0, _ => h.1
  | 1, _ => by show nxt i c 0 (st0 sd5 i c) = _; rw [h.1, h.2.1]; rfl
  | 2, _ => by show nxt i c 1 (nxt i c 0 (st0 sd5 i c)) = _; rw [h.1, h.2.1, h.2.2.1]; rfl
  | 3, _ => by show nxt i c 2 (nxt i c 1 (nxt i c 0 (st0 sd5 i c))) = _; rw [h.1, h.2.1, h.2.2.1, h.2.2.2]; rfl
  | d + 4, h => by omega
theorem flat_rows {α : Type} (f : Nat → List Nat) (g : α → List Nat) : ∀ (T : List α) (k : Nat), (∀ j r, T[j]? = some r → f (k + j) = g r) → (List.range' k T.length).flatMap f = T.flatMap g
  | [], _, _ => rfl
  | r :: T, k, h => by
    rw [List.length_cons, List.range'_succ, List.flatMap_cons, List.flatMap_cons]
    have h0 := h 0 r rfl
    rw [Nat.add_zero] at h0
    rw [h0, flat_rows f g T (k + 1) (fun j r' hj => by have := h (j + 1) r' (by simpa using hj); rwa [show k + (j + 1) = k + 1 + j by omega] at this)]
theorem zero_get (c : Nat) : zero68.getD c 0 = 0 := by
  unfold zero68; rw [List.getD_eq_getElem?_getD, List.getElem?_replicate]; split <;> rfl
theorem top_get (c : Nat) (hc : c < 68) : top68.getD c 0 = 3 := by
  unfold top68; rw [List.getD_eq_getElem?_getD, List.getElem?_replicate, if_pos hc]; rfl
theorem at_start (i c : Nat) (D : List Nat) (hc : c < 68) : upAt i (startL sd5 i) zero68 D c = up i c (D.getD c 0) 0 (st0 sd5 i c) := by
  unfold upAt
  rw [zero_get, Nat.sub_zero]
  have : cut16 (startL sd5 i) c = st0 sd5 i c := cut_flat (st0_len sd5 i) 68 c hc
  rw [this]
theorem tops_rows {i : Nat} {T : List (Nat × Nat × Nat × Nat)} (hT : T.length = 68) (h : ∀ c r, T[c]? = some r → RowOk i c r) : climbL i (startL sd5 i) zero68 top68 = T.flatMap fun r => unp r.2.2.2 := by
  have := flat_rows (upAt i (startL sd5 i) zero68 top68) (fun r => unp r.2.2.2) T 0 (fun j r hj => by
    have hjl := (List.getElem?_eq_some_iff.1 hj).1
    rw [Nat.zero_add, at_start i j top68 (by omega), top_get j (by omega), up_row (h j r hj) 3 (by decide)]; rfl)
  rw [hT, ← List.range_eq_range'] at this
  exact this
theorem flat_unp_all {α : Type} (g : α → Nat) (T : List α) : AllB (T.flatMap fun r => unp (g r)) := by
  intro d hd
  obtain ⟨r, _, h⟩ := List.mem_flatMap.1 hd
  exact unp_all _ d h
theorem flat_unp_len {α : Type} (g : α → Nat) (T : List α) : (T.flatMap fun r => unp (g r)).length = 16 * T.length := by
  induction T with
  | nil => rfl
  | cons a T ih => rw [List.flatMap_cons, List.length_append, ih, unp_len, List.length_cons]; omega
theorem leaf_of {V : List Nat} (hV : AllB V) (hl : V.length < 65536) {x : Nat} (h : isN (ofdF 1 [ofdF 3 [V]]) x = true) : leafL V = unp x := by
  refine isN_eq h ?_ (ofd_len _ _) (ofd_all _ _)
  have e3 : ofdF 3 [V] = ofd 3 [V] := ofdF_eq 3 (by decide) [V] (by simpa using hl) (by simpa using hV)
  rw [e3]
  exact ofdF_eq 1 (by decide) _ (by intro p hp; simp at hp; subst hp; rw [ofd_len]; decide) (by intro p hp; simp at hp; subst hp; exact ofd_all _ _)
theorem par_of {a b x : Nat} (h : isN (ofdF 2 [unp a, unp b]) x = true) : parL (unp a) (unp b) = unp x :=
  isN_eq h (ofdF_eq 2 (by decide) _ (by intro p hp; simp at hp; rcases hp with rfl | rfl <;> (rw [unp_len]; decide)) (by intro p hp; simp at hp; rcases hp with rfl | rfl <;> exact unp_all _)) (ofd_len _ _) (ofd_all _ _)
theorem msg_of {p i m x : Nat} (hi : i < 65536) (hm : m < 256) (h : isN (ofdF 4 [unp p, encE i, [m]]) x = true) : msgL (unp p) i [m] = unp x := by
  refine isN_eq h ?_ (ofd_len _ _) (ofd_all _ _)
  unfold msgL
  rw [encE_eq i hi]
  have he := enc_len (i : Int) (by omega)
  refine ofdF_eq 4 (by decide) _ ?_ ?_
  · intro p hp; simp at hp; rcases hp with rfl | rfl | rfl
    · rw [unp_len]; decide
    · omega
    · simp
  · intro p hp; simp at hp; rcases hp with rfl | rfl | rfl
    · exact unp_all _
    · exact enc_lt _ (by omega)
    · intro d hd; rw [List.mem_singleton] at hd; subst hd; exact hm
/-- Steps, each told. -/
noncomputable def chkU (i c : Nat) : Nat → Nat → List Nat → Bool
  | _, _, [] => true
  | t, x, y :: ys => isN (nxtF i c t x) y && chkU i c (Nat.succ t) y ys
def lastN : Nat → List Nat → Nat
  | x, [] => x
  | _, y :: ys => lastN y ys
theorem chkU_ok {i c : Nat} (hi : i < 65536) (hc : c < 65536) : ∀ (ys : List Nat) (t x : Nat), t + ys.length < 65536 → chkU i c t x ys = true → up i c ys.length t (unp x) = unp (lastN x ys)
  | [], _, _, _, _ => rfl
  | y :: ys, t, x, hl, h => by
    rw [List.length_cons] at hl
    have h' : (isN (nxtF i c t x) y && chkU i c (Nat.succ t) y ys) = true := h
    rw [Bool.and_eq_true] at h'
    have h1 := isN_eq h'.1 (nxtF_eq i c t x hi hc (by omega)) (ofd_len _ _) (ofd_all _ _)
    show up i c ys.length (t + 1) (nxt i c t (unp x)) = _
    rw [h1]
    exact chkU_ok hi hc ys (t + 1) y (by omega) h'.2
/-- Rows: a digit of the message that was signed, one of the other, the value, the steps. -/
noncomputable def chkW : Nat → List (Nat × Nat × Nat × List Nat) → List (Nat × Nat × Nat × Nat) → Bool
  | c, (m, n, x, ys) :: R, r :: T => Nat.beq (sel r m) x && (Nat.beq (Nat.add n ys.length) 3 && (Nat.ble m 3 && (chkU 1 c n x ys && chkW (Nat.succ c) R T)))
  | _, [], [] => true
  | _, _, _ => false
theorem chkW_ok : ∀ (R : List (Nat × Nat × Nat × List Nat)) (T : List (Nat × Nat × Nat × Nat)) (c : Nat), c + R.length < 60000 → chkW c R T = true → ∀ j w r, R[j]? = some w → T[j]? = some r → sel r w.1 = w.2.2.1 ∧ w.2.1 + w.2.2.2.length = 3 ∧ w.1 ≤ 3 ∧ up 1 (c + j) w.2.2.2.length w.2.1 (unp w.2.2.1) = unp (lastN w.2.2.1 w.2.2.2)
  | [], _, _, _, _, j, w, r, h, _ => by simp at h
  | _ :: _, [], _, _, h, _, _, _, _, _ => by cases h
  | (m, n, x, ys) :: R, r :: T, c, hl, h, j, w, r', hw, hr => by
    rw [List.length_cons] at hl
    have h' : (Nat.beq (sel r m) x && (Nat.beq (Nat.add n ys.length) 3 && (Nat.ble m 3 && (chkU 1 c n x ys && chkW (Nat.succ c) R T)))) = true := h
    simp only [Bool.and_eq_true] at h'
    obtain ⟨a1, a2, a3, a4, a5⟩ := h'
    have b2 : n + ys.length = 3 := Nat.eq_of_beq_eq_true a2
    cases j with
    | zero =>
      simp only [List.getElem?_cons_zero, Option.some.injEq] at hw hr
      subst hw hr
      exact ⟨Nat.eq_of_beq_eq_true a1, b2, Nat.le_of_ble_eq_true a3, chkU_ok (by decide) (by omega) ys n x (by omega) a4⟩
    | succ j =>
      rw [List.getElem?_cons_succ] at hw hr
      have := chkW_ok R T (c + 1) (by omega) a5 j w r' hw hr
      rwa [show c + 1 + j = c + (j + 1) by omega] at this
def dmL : List Nat := [2, 1, 1, 0, 2, 1, 1, 2, 2, 0, 1, 0, 0, 0, 1, 3, 0, 2, 1, 3, 2, 2, 2, 0, 3, 3, 0, 0, 1, 3, 0, 3, 3, 1, 3, 1, 0, 0, 2, 1, 0, 0, 1, 3, 3, 1, 2, 2, 3, 2, 3, 0, 3, 2, 0, 0, 1, 1, 1, 3, 1, 2, 2, 0, 1, 2, 1, 3]
def dnL : List Nat := [2, 1, 0, 3, 0, 3, 2, 2, 2, 3, 1, 0, 0, 3, 3, 2, 3, 1, 3, 1, 2, 3, 3, 2, 2, 1, 0, 1, 3, 0, 2, 3, 0, 1, 2, 3, 1, 1, 3, 2, 2, 2, 3, 2, 1, 0, 0, 1, 0, 2, 0, 0, 3, 2, 3, 3, 2, 3, 0, 1, 1, 1, 0, 3, 1, 1, 1, 3]
def wrows : List (Nat × Nat × Nat × List Nat) := [
  (2, 2, 0xf073de17ac97e2a1d8a25832cb97ffd8, [0xa3126c19e6c05e40f7bcbc2387b37235]),
  (1, 1, 0xac44dea02a822a51717f56790c4a0830, [0x31f10d1d297a3e5d10f96ae54b7fb453, 0x81b15eeca74884ebdd88f0fc7a96e947]),
  (1, 0, 0x9efabdcb854ee78b68d0cb23a5736b43, [0x6c174660ae7c8dfe37c1a801cf6c4b33, 0xd8f6e7266679ab6911680e2b36b97eba, 0xfa0b4c597c419a80e07aa26b00868e67]),
  (0, 3, 0x35781b4e099b88bae3a11e308609ede0, []),
  (2, 0, 0x8ee9a6ffe9c35884c260204c35c4ae41, [0x886df49485d42c862910286d130738cd, 0xaf322611e550c77dfad9b2a4acd316be, 0x8910d24740b5657ecd949044640a7947]),
  (1, 3, 0x2ba8e3780e7a25cbc7be200a49395685, []),
  (1, 2, 0xf2dc3fd0a6ab3541a0331ddf3732f2d3, [0x9e5f03fdbf995eb8d650c965d80a42b1]),
  (2, 2, 0x6f9bae97c8c3c4f715bb88c052016068, [0x89954b7b7c8364962a94394d4770af33]),
  (2, 2, 0xf0c272e4e5f8b683f2c17b53edf40db2, [0x9f524d92dbdf57e875c0dc11f9a084dd]),
  (0, 3, 0x8ff687bb03901c2e25c22357b3a5e2ab, []),
  (1, 1, 0xcaa7b91ed1936835022cab6cd41cb473, [0x542109282e75a99cf9eefb6a65f92f52, 0x8486c074902ae3a897b053d9fb067689]),
  (0, 0, 0xcdad733975aa5b22af3b7fb46b031639, [0x97368aa9a4173667739dae17e48ed32f, 0x908f436bf305615c29c7f8e3c0b711f4, 0x6678221cfeb7d12d698333654d5da2f7]),
  (0, 0, 0xa2b0e90771bc7ffa09f9ec4d88b83841, [0xddb3562812ae370e69f4ff164b2c90cc, 0x6849822cf066c5f60b8f16dde01f7d80, 0x5e3bf6161436e922a4e853f777cc9672]),
  (0, 3, 0x7c17a45eff54d89291271e312fa00f7d, []),
  (1, 3, 0x4a89c680fbbc720dd6ae8880860f0518, []),
  (3, 2, 0x07de8c70297fb35fde811f6feaeb225e, [0x2d9a149f5254bc41ddb5cd813a2c725e]),
  (0, 3, 0xaf0f40df4890c75025f94fe4da105a5e, []),
  (2, 1, 0xef2b2550420798b48b0bd399d1baa6c8, [0xe9f54920640188fab818388686ed4106, 0xebe0d652857518b7d655f783ef3ac842]),
  (1, 3, 0xd3a6b2d941325b2d9bf5210f2bc2a4ee, []),
  (3, 1, 0x89eda3c296de6dfbb2b6e803bbd8db1a, [0xe9cb9a64a8e8833aafd0213c8988a026, 0x2996385158c7a02a2876ae8c910d1b70]),
  (2, 2, 0x1fb9bb6a3167ae72cf09b32b012bab60, [0xc3777e80cf15e365cc8362f1d3b447ce]),
  (2, 3, 0x0cb8eeb952efe5a6b514b2dc7917a813, []),
  (2, 3, 0xe35b69108b654ae0e9638d35c169ab3f, []),
  (0, 2, 0x24c595b3e018d68bcd8d8dd2c392b296, [0x446b9bcc554ac9f64f3575d0818be7c6]),
  (3, 2, 0xf03134487be7eeb70cc56d9bb8139e9b, [0xbbb2968f860ca992a0c8e30920dafa4c]),
  (3, 1, 0x753d73d7b4a6cda968f2c6834f15165b, [0x0b3921d38f78d3d2dc09cededf27491f, 0x0bdf3f0d0cc6cd2182a8bedee37a59a3]),
  (0, 0, 0x1899dafb7c1dbbc6f28f11f438c06dd9, [0xaa0f80fae82cbb39db61fbd5aec84a5b, 0x523b86a9c5064fdc0367637caa52c310, 0x32a2dbfafe40e60d5518e6bd08020b9c]),
  (0, 1, 0x055a427b603b09eb590d72d4677b5ed9, [0xd1c02a1975d339f9afc1035ff0958dc2, 0xc48c50dd0bfafb8325b727a0417fee36]),
  (1, 3, 0xbf24bd1d114cdfdde071658e4dc7b704, []),
  (3, 0, 0xf131fb11eb149e373626e225f66eb62f, [0x13b688e5d5613cbb9a6c2d93250f695a, 0xfd4fb912bcc556a724cc5ef3a1b7e3c0, 0x585ce099f714089bdc7c40bf8ef8e395]),
  (0, 2, 0x071b46c4f0d567c86bf8aa36e7208964, [0x941abfe11dc9696e4d7da85a775779b3]),
  (3, 3, 0x80729e3462b548a41b51c6478dbbd5cf, []),
  (3, 0, 0xe3bede0d401544599201b0c231262b34, [0x3de9226ce146d50a9652a0cad2ed93c3, 0x15d605f13187dcc4bf019d853c06cc57, 0x7e54ae5b4bf8000f9bc910a40fd3a1d5]),
  (1, 1, 0xbbd3b3a245ef6c464b9a916c64fe38d6, [0x807d4b92a4ac037302f8bf82f3c54ccc, 0x15af3b5f0d43d127881634e2cec4258b]),
  (3, 2, 0x0ef54125c281b1711f3c641b6323729e, [0x771fc649ba8f3be2910863d3ca548ad3]),
  (1, 3, 0x53deb558554955a13ad0e362606b71db, []),
  (0, 1, 0x0e26a2232f235a54747afb1ef98d8e53, [0x4fd6a2ce708342d09dfc3755ce82373a, 0x1b30f6072c133f911a796f2652b5b3bb]),
  (0, 1, 0x290b00ebb6c5d75b5e044afeb01dbac3, [0xff21f491a6a9553bf2acb33aa94b7a7f, 0x08bfcc03acc1f4aee00c2d40573b9314]),
  (2, 3, 0xc8fd1ed5f5a0ac29ab9933255811f43f, []),
  (1, 2, 0xd424118c32d2c571d203df6ed186d48b, [0x4ed5169df6370e470141781a489a1a9a]),
  (0, 2, 0xc95714268671d72d2562d5cd7988c41e, [0x45b0addc13ca06d30391135b3fdd9773]),
  (0, 2, 0x1003532d9050d86300da29d9abf08054, [0x05d6cecb93065b10e5ebfe3c234d0e8b]),
  (1, 3, 0xa16beaba2ac43ed591c818f75a53d6d9, []),
  (3, 2, 0x2ea7641b8196ed4ee89d31c295987be1, [0x1667a04cc6295636b276ed9e09e73870]),
  (3, 1, 0x07957b24bc923c72b7be9ca2fc7c25ae, [0x04fbce887b6de6568f01477c15672524, 0x0b2beb22917ce6bb7c2100bb0549b293]),
  (1, 0, 0x5ecebfed82570bcb0bf9b212fdc91b21, [0x756670d6f4cf39776afa7b5da16e39bb, 0xd9a7625edc4cd46caea381a456150ab7, 0xdfe8a304f238cc694c24376a7eecd83f]),
  (2, 0, 0x628dc46eaf4950cb4178bf729db59b0c, [0xd7488ed5421f70b9fb560be6cb7cf2ab, 0x23d001817ca1468c0bf83161ae5472b1, 0xb1f46b69f28e89ca8d8576f1bfa625cb]),
  (2, 1, 0xa07073c3b208fa67bed94b8b603a7c33, [0x8c7f04dbbf0d401d6296a913089172c4, 0x599b8af9c3c152f2498f65ec98a125cf]),
  (3, 0, 0x280c1e2e30b1dbe5e36728ac93508def, [0xb10cf43147aef869a98461343ec90d3c, 0xa23eebcd9721cda98a8a5f003395e024, 0xa781216fb36a8be66a8f5ca620cdac6c]),
  (2, 2, 0x601ef7f693e68313afa60373020f2df2, [0x14a83fc0e7e8c2c4c8abdbae8dcaa1ad]),
  (3, 0, 0x990842476694aad082596cd8da2009df, [0xafc5cdba9d55881c5e623f155c88d0b3, 0x7c717f8e34fca215e8f108ad6e6799ea, 0x6a0d68babffc80d01065a3f761e85d03]),
  (0, 0, 0xb437ae6c6ec9291c729cac845475fceb, [0xf76f630878fc8c6193a42d13e5c97f4a, 0x2d5aad85947a345dadacac1395a66d43, 0xca60f83c1a48b88fc7aba5eb8b7b7014]),
  (3, 3, 0xe07b59627df153c5486ac7460289f5b9, []),
  (2, 2, 0x2adf7c8cba708e47b52aa74369ebedaa, [0xc563d2b68a69fc19546b101fd495e588]),
  (0, 3, 0x80b1437189a2aa2208d37387494a5f11, []),
  (0, 3, 0x68f69f1fdafa18bfe57a5d63bc55de0b, []),
  (1, 2, 0x1839a63d1bcb69a8de357967ffc30f5f, [0x1f06343c06b7ca69b5b4f0ecddca4ad5]),
  (1, 3, 0xc43a6ac12ae3c1891fc700e94c58fc9e, []),
  (1, 0, 0x0dbcabead4cba540b069ae11477970bf, [0x23c0a6524bd7bb3b684c30fe4b70c804, 0x7c1ce60b23d6f1e6870d843978956968, 0x4aa3380a9a511ed04586860c0331ea4b]),
  (3, 1, 0xcdad095ad8bf558da04bfbb83b855204, [0x661b0678d8249dff3d5c07a3d15c1991, 0xc164f5da79dd1a472d55533e8f51eb22]),
  (1, 1, 0xc09d99e3860a48a3ce18281f415ac028, [0x30833167ceefa79d60c8812af6d85613, 0x1de2f0da8142ca5a61560c478eb9c8f1]),
  (2, 1, 0xd50318fa16c48e779756a96f57bffb36, [0xf670a0b7f15e23db01fa2cf09eb9c836, 0x40db54b779c89ffe732d7b03402357d9]),
  (2, 0, 0x726f9b791166463f9a87128ff399547d, [0x3f33870fceb8b6baf1db2a041572ade4, 0x582efc5d4fba46e1cd8cc79668616525, 0x656988a6d8dbaf33477097978ccf4721]),
  (0, 3, 0x3912f0561ba541d78cd2651d57defb44, []),
  (1, 1, 0x0697f3ea22d2f4dc9ae68242f8f01154, [0xf4cffa6730a3a15829601e222ba71d7c, 0x7e5e67390486deb0e1ec5eb6dfc39f5b]),
  (2, 1, 0x5b77375fb2be766a826e7aace12467bc, [0x950ad49236efa9ba628901994cd4b97e, 0xf17a874fedd3d5976dc353be7f01ae13]),
  (1, 1, 0x75d8b4021f406939880e2c2e8f011313, [0xf38fd7918205a95af6423bfa2bda01dd, 0xd03cc429c81a9354687ea1b90198770c]),
  (3, 3, 0xc5c16d822b5e73dcd3503ced314e0cad, [])]
set_option maxRecDepth 100000 in
theorem wrows_ok : chkW 0 wrows tab1 = true := by kernel_rfl
theorem wrows_m : wrows.map (fun w => w.1) = dmL := rfl
theorem wrows_n : wrows.map (fun w => w.2.1) = dnL := rfl
theorem wrows_len : wrows.length = 68 := rfl
def L0n : Nat := 0x4097faed97af7e26a384f196a84d0328
def L1n : Nat := 0xe3214986fe0f948604e238c3f6f9b3d7
def Rn : Nat := 0x0654b882c108748ad3708d507f34d89a
def Dmn : Nat := 0x9496840727a8f073dd0907daece05768
def Dnn : Nat := 0x933ab43eddbe91cb1b5eae4120efb153
def D0n : Nat := 0x20926e5de12736838bc136576090045b
def LWn : Nat := 0x8b54bbc9aa89514df4634e47905d1a40
def RWn : Nat := 0xc9998408d4ef764307f3dde236040cae
set_option maxRecDepth 100000 in
theorem l0_ok : isN (ofdF 1 [ofdF 3 [tab0.flatMap fun r => unp r.2.2.2]]) L0n = true := by kernel_rfl
set_option maxRecDepth 100000 in
theorem l1_ok : isN (ofdF 1 [ofdF 3 [tab1.flatMap fun r => unp r.2.2.2]]) L1n = true := by kernel_rfl
set_option maxRecDepth 100000 in
theorem lw_ok : isN (ofdF 1 [ofdF 3 [wrows.flatMap fun w => unp (lastN w.2.2.1 w.2.2.2)]]) LWn = true := by kernel_rfl
set_option maxRecDepth 100000 in
theorem r_ok : isN (ofdF 2 [unp L0n, unp L1n]) Rn = true := by kernel_rfl
set_option maxRecDepth 100000 in
theorem rw_ok : isN (ofdF 2 [unp L0n, unp LWn]) RWn = true := by kernel_rfl
set_option maxRecDepth 100000 in
theorem dm_ok : isN (ofdF 4 [unp Rn, encE 1, [109]]) Dmn = true := by kernel_rfl
set_option maxRecDepth 100000 in
theorem dn_ok : isN (ofdF 4 [unp Rn, encE 1, [110]]) Dnn = true := by kernel_rfl
set_option maxRecDepth 100000 in
theorem d0_ok : isN (ofdF 4 [unp Rn, encE 0, [109]]) D0n = true := by kernel_rfl
set_option maxRecDepth 100000 in
theorem dm_dig : digL (unp Dmn) = dmL := eqW_eq (by kernel_rfl)
set_option maxRecDepth 100000 in
theorem dn_dig : digL (unp Dnn) = dnL := eqW_eq (by kernel_rfl)
theorem eqW_refl : ∀ a, eqW a a = true
  | [] => rfl
  | x :: a => by show (Nat.beq x x && eqW a a) = true; rw [eqW_refl a, Nat.beq_refl]; rfl
theorem ne_of {a b : List Nat} (h : eqW a b = false) : a ≠ b := fun e => by subst e; rw [eqW_refl] at h; cases h
theorem r_ne : unp RWn ≠ unp Rn := ne_of (by kernel_rfl)
theorem d_ne : unp Dmn ≠ unp D0n := ne_of (by kernel_rfl)

/-! ### What the example comes to. -/
theorem ex_leaf0 : nodeL sd5 0 0 = unp L0n := by
  show leafL (climbL 0 (startL sd5 0) zero68 top68) = _
  rw [tops_rows tab0_len row0]
  exact leaf_of (flat_unp_all _ _) (by rw [flat_unp_len (fun r : Nat × Nat × Nat × Nat => r.2.2.2), tab0_len]; decide) l0_ok
theorem ex_leaf1 : nodeL sd5 0 1 = unp L1n := by
  show leafL (climbL 1 (startL sd5 1) zero68 top68) = _
  rw [tops_rows tab1_len row1]
  exact leaf_of (flat_unp_all _ _) (by rw [flat_unp_len (fun r : Nat × Nat × Nat × Nat => r.2.2.2), tab1_len]; decide) l1_ok
theorem ex_root : nodeL sd5 1 0 = unp Rn := by
  show parL (nodeL sd5 0 0) (nodeL sd5 0 1) = _
  rw [ex_leaf0, ex_leaf1]
  exact par_of r_ok
theorem ex_dm : msgL (nodeL sd5 1 0) 1 [109] = unp Dmn := by rw [ex_root]; exact msg_of (by decide) (by decide) dm_ok
theorem ex_dn : msgL (nodeL sd5 1 0) 1 [110] = unp Dnn := by rw [ex_root]; exact msg_of (by decide) (by decide) dn_ok
theorem ex_d0 : msgL (nodeL sd5 1 0) 0 [109] = unp D0n := by rw [ex_root]; exact msg_of (by decide) (by decide) d0_ok
theorem ex_msg : msgL (nodeL sd5 1 0) 1 [109] ≠ msgL (nodeL sd5 1 0) 0 [109] := by rw [ex_dm, ex_d0]; exact d_ne
theorem map_get {α : Type} (f : α → Nat) (R : List α) (L : List Nat) (h : R.map f = L) {j : Nat} {w : α} (hj : R[j]? = some w) : L.getD j 0 = f w := by
  rw [← h, List.getD_eq_getElem?_getD, List.getElem?_map, hj]; rfl
/-- The climb from what was signed for the other message. -/
theorem ex_wrong : climbL 1 (climbL 1 (startL sd5 1) zero68 dmL) dnL top68 = wrows.flatMap fun w => unp (lastN w.2.2.1 w.2.2.2) := by
  have := flat_rows (upAt 1 (climbL 1 (startL sd5 1) zero68 dmL) dnL top68) (fun w => unp (lastN w.2.2.1 w.2.2.2)) wrows 0 (fun j w hj => by
    have hjl : j < 68 := by have := (List.getElem?_eq_some_iff.1 hj).1; rwa [wrows_len] at this
    obtain ⟨r, hr⟩ : ∃ r, tab1[j]? = some r := ⟨_, List.getElem?_eq_getElem (by rw [tab1_len]; exact hjl)⟩
    obtain ⟨h1, h2, h3, h4⟩ := chkW_ok wrows tab1 0 (by rw [wrows_len]; decide) wrows_ok j w r hj hr
    rw [Nat.zero_add] at h4 ⊢
    have hcut : cut16 (climbL 1 (startL sd5 1) zero68 dmL) j = unp w.2.2.1 := by
      have hc : cut16 (climbL 1 (startL sd5 1) zero68 dmL) j = upAt 1 (startL sd5 1) zero68 dmL j := cut_climb 1 zero68 dmL (startL_len _ _) 68 j hjl (Nat.le_refl _)
      rw [hc, at_start 1 j dmL hjl, map_get _ wrows dmL wrows_m hj, up_row (row1 j r hr) _ h3, h1]
    unfold upAt
    rw [hcut, map_get _ wrows dnL wrows_n hj, top_get j hjl, show 3 - w.2.1 = w.2.2.2.length by omega]
    exact h4)
  rw [wrows_len, ← List.range_eq_range'] at this
  exact this
theorem over_one (v o : List Nat) : overL v 1 [o] = parL o v := by
  show (if 1 % 2 = 0 then parL v o else parL o v) = _
  rw [if_neg (by decide)]
theorem bes_one (sd : List Nat) : besL sd 1 1 = [nodeL sd 0 0] := by
  have hs : sib 1 0 = 0 := by decide
  show [nodeL sd 0 (sib 1 0)] = _
  rw [hs]
theorem ex_over : overL (leafL (climbL 1 (climbL 1 (startL sd5 1) zero68 (digL (msgL (nodeL sd5 1 0) 1 [109]))) (digL (msgL (nodeL sd5 1 0) 1 [110])) top68)) 1 (besL sd5 1 1) ≠ nodeL sd5 1 0 := by
  rw [ex_dm, ex_dn, dm_dig, dn_dig, ex_wrong]
  have hl : leafL (wrows.flatMap fun w => unp (lastN w.2.2.1 w.2.2.2)) = unp LWn := leaf_of (flat_unp_all _ _) (by rw [flat_unp_len (fun w : Nat × Nat × Nat × List Nat => lastN w.2.2.1 w.2.2.2), wrows_len]; decide) lw_ok
  rw [hl, bes_one, over_one, ex_leaf0, ex_root, par_of rw_ok]
  exact r_ne
end Go.Proofs.YtbfoajfpnfkfnaaDoor
