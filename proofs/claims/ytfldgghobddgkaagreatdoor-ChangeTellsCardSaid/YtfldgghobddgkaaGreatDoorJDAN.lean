/-
  A member taken out of a row of members of a call's own: what slices.Delete answers there.
-/
import Derived.Test.YtfldgghobddgkaaGreatDoorJDAM
namespace Go.Proofs.YtfldgghobddgkaaGreatDoor
open Go.ChangeShapes Go.WideShapes Go.ChangeAt Go.RowKit Go.Lib
set_option maxRecDepth 100000
def cutM (M:Nat→Mem) (i:Nat):Nat→Mem:=fun j=>M (if j<i then j else j+1)
theorem cellsMb_take (M:Nat→Mem) (n:Nat):∀ k,k≤n→(cellsMb M n).take (k*4)=cellsMb M k:=by
 induction n with
 | zero =>
  intro k hk
  obtain rfl:k=0:=by omega
  rfl
 | succ n ih =>
  intro k hk
  by_cases h:k=n+1
  ·subst h
   exact List.take_of_length_le (by rw [cellsMb_len];exact Nat.le_refl _)
  ·rw [cellsMb,List.take_append_of_le_length (by rw [cellsMb_len];omega)]
   exact ih k (by omega)
theorem cellsMb_cgr {M M':Nat→Mem}:∀ k,(∀ i,i<k→M i=M' i)→cellsMb M k=cellsMb M' k
 | 0,_=>rfl
 | k+1,h=>by rw [cellsMb,cellsMb,cellsMb_cgr k fun i hi=>h i (by omega),h k (by omega)]
theorem cellsMb_cut (M:Nat→Mem) {i:Nat}:∀ m,i≤m→cellsMb (cutM M i) m=(cellsMb M (m+1)).take (i*4) ++ (cellsMb M (m+1)).drop ((i+1)*4):=by
 intro m
 induction m with
 | zero =>
  intro h
  obtain rfl:i=0:=by omega
  rw [List.drop_of_length_le (by rw [cellsMb_len];omega)]
  rfl
 | succ m ih =>
  intro h
  by_cases e:i=m+1
  ·subst e
   rw [cellsMb_take _ _ _ (by omega),List.drop_of_length_le (by rw [cellsMb_len];omega),List.append_nil]
   refine cellsMb_cgr _ fun j hj=>?_
   unfold cutM
   rw [if_pos hj]
  ·rw [cellsMb,ih (by omega),cellsMb_take _ _ _ (by omega),cellsMb_take _ _ _ (by omega)]
   rw [show cellsMb M (m+1+1)=cellsMb M (m+1) ++ [.string (M (m+1)).name,.int .i64 (M (m+1)).parent,.int .i64 (M (m+1)).sign,.string (M (m+1)).formula] from rfl,List.drop_append_of_le_length (by rw [cellsMb_len];omega),List.append_assoc]
   have:cutM M i m=M (m+1):=by unfold cutM;rw [if_neg (by omega)]
   rw [this]
theorem run_clear_g {P:Program} (k m:Nat) (w:World) (t e ty:TypeId) (z:Value) (ht:P.underlying t=some (.slice e)) (hv:∀ w,(zeroValue e).run P w=.ok z w) (zc:Array Value) (hz:z.cells=zc) (hk:zc.size=k) (h1:∀ v∈(Builtin.zeroCells zc m).toList,v.oneCell'=true) (g o c:Nat) (cur:Array Value) (u:TypeId) (hg:w.heap[g]?=some (.cells cur u (0,0))) (hfit:o+m*k≤cur.size) (hm:0<m) :
  ∃ zs:List Value,zs.length=m*k∧(Builtin.clear_ #[t] ty #[.slice (some ⟨g,o,none⟩) m c]).run P w=.ok (.tuple #[]) (w.setRow g (cur.toList.take o ++ zs ++ cur.toList.drop (o+m*k)).toArray):=by
 have hsz:(Builtin.zeroCells zc m).toList.length=m*k:=by simp [Builtin.zeroCells,hk]
 have hst:=run_storeCells_at P g o u (Builtin.zeroCells zc m).toList 0 cur w hg (by rw [hsz];simpa using hfit) h1
 refine ⟨(Builtin.zeroCells zc m).toList,hsz,?_⟩
 simp only [Nat.add_zero] at hst
 rw [hsz] at hst
 obtain ⟨m,rfl⟩:∃ k,m=k+1:=⟨m-1,by omega⟩
 simp [Builtin.clear_,run_underlying ht,hv,hz,hst]
theorem zc4_one:∀ v∈(Builtin.zeroCells #[.string ⟨#[]⟩,.int .i64 0,.int .i64 0,.string ⟨#[]⟩] 1).toList,v.oneCell'=true:=by decide +kernel
set_option maxHeartbeats 4000000 in
theorem mdelete_any (B g cap i n:Nat) (M:Nat→Mem) (w:World) (hn:n≤12) (hi:i<n) (hR:w.ownsRow B 43 4 (.slice (some ⟨g,0,none⟩) n cap) n (cellsMb M n)) :
  Calls Tryz.prog 67 #[.slice (some ⟨g,0,none⟩) n cap,.int .i64 i,.int .i64 ((i:Int)+1)] w fun e w'=>e=.returned (.slice (some ⟨g,0,none⟩) ((n-1:Nat):Nat) cap)∧w'.ownsRow B 43 4 (.slice (some ⟨g,0,none⟩) (n-1) cap) (n-1) (cellsMb (cutM M i) (n-1))∧w.grownBy w' (some g):=by
 obtain ⟨i0,hi0,hz0,hz1,hz2⟩:=info_parts Tryz.infoMemH
 obtain ⟨hBg,-,hnc,hcm,-⟩:=ow_blk hR
 have hR2:=hR
 rcases hR.2 with ⟨h',_⟩ | ⟨g',cap',cur,h',-,hcur,-,-,hcs,hct⟩
 ·cases h'
 cases h'
 unfold maxLen at hcm
 obtain ⟨XS,hXS⟩:∃ XS,XS=cellsMb M n:=⟨_,rfl⟩
 have hXl:XS.length=n*4:=by rw [hXS,cellsMb_len]
 have hcut:cellsMb (cutM M i) (n-1)=XS.take (i*4) ++ XS.drop ((i+1)*4):=by
  rw [cellsMb_cut M (n-1) (by omega),hXS,show n-1+1=n by omega]
 obtain ⟨news,hnews⟩:∃ news,news=XS.drop ((i+1)*4):=⟨_,rfl⟩
 have hdl:news.length=(n-(i+1))*4:=by rw [hnews,List.length_drop,hXl];omega
 have hcl0:cur.toList.length=cap*4:=by simpa using hcs
 obtain ⟨C1,hC1⟩:∃ C1,C1=cur.toList.take (i*4) ++ news ++ cur.toList.drop (i*4+news.length):=⟨_,rfl⟩
 have hl1:C1.length=cap*4:=by
  rw [hC1]
  simp only [List.length_append,List.length_take,List.length_drop,hdl,hcl0]
  omega
 rw [←hXS] at hct
 have ht1:C1.take ((n-1)*4)=XS.take (i*4) ++ XS.drop ((i+1)*4):=by
  have h2:cur.toList.take (i*4)=XS.take (i*4):=by
   rw [←hct,List.take_take,show min (i*4) (n*4)=i*4 by omega]
  rw [hC1,h2,←hnews]
  exact take_join (by simp only [List.length_append,List.length_take,hdl,hXl];omega)
 obtain ⟨A,hA,hsrc⟩:∃ A:Addr,(if cap=i+1 then some (⟨g,0,none⟩:Addr) else some ⟨g,(i+1)*4,none⟩)=some A∧Hid (∀ t u,news[t]?=some u→w.drew.cell? (A.add t)=some u):=by
  by_cases h:cap=i+1
  ·refine ⟨⟨g,0,none⟩,by simp [h],fun t u hu=>?_⟩
   have h0:news.length=0:=by rw [hdl];omega
   rw [List.length_eq_zero_iff.1 h0] at hu
   simp at hu
  ·refine ⟨⟨g,(i+1)*4,none⟩,by simp [h],fun t u hu=>?_⟩
   rw [hnews,List.getElem?_drop] at hu
   rw [plain_add]
   have hlt:=(List.getElem?_eq_some_iff.1 hu).1
   have:=hR2.cellAt ((i+1)*4+t) (by omega)
   rw [←hXS,hu] at this
   exact this
 have s1:Hid (news.length=(n-(i+1))*4):=hdl
 have s2:Hid (∀ u∈news,u.oneCell'=true):=fun u hu=>by
  rw [hnews,hXS,←rowF_mc] at hu
  exact mcV_one M _ u (List.mem_of_mem_drop hu)
 have s3:Hid (∀ t,t<news.length→(w.drew.cell? ⟨g,0+i*4+t,none⟩).isSome=true∧w.drew.frozen? ⟨g,0+i*4+t,none⟩=false):=by
  intro t ht
  rw [hdl] at ht
  refine ⟨?_,hR2.frozenAt _⟩
  show (w.cell? _).isSome=true
  simp [World.cell?,hcur,hcs]
  omega
 obtain ⟨W1,hW1⟩:∃ W1,W1=w.drew.setRow g C1.toArray:=⟨_,rfl⟩
 have HW:Hid (W1=w.drew.setCells g (0+i*4) news):=by
  show _=_
  rw [setCells_row g 43 news (0+i*4) cur w.drew hcur (by rw [hdl];omega),hW1,hC1,Nat.zero_add]
 have hW1h:W1.heap[g]?=some (.cells C1.toArray 43 (0,0)):=by rw [hW1];exact setRow_heap w.drew g cur _ _ _ hcur
 obtain ⟨zz,hzz,hcl⟩:=run_clear_g (P:=Tryz.prog) 4 1 W1 39 43 0 (.agg #[.string ⟨#[]⟩,.int .i64 0,.int .i64 0,.string ⟨#[]⟩]) Tryz.underlying39 Tryz.zeroValue43 _ rfl rfl zc4_one g ((n-1)*4) (cap-(n-1)) C1.toArray 43 hW1h (by rw [List.size_toArray,hl1];omega) (by omega)
 obtain ⟨C2,hC2⟩:∃ C2,C2=C1.take ((n-1)*4) ++ zz ++ C1.drop ((n-1)*4+1*4):=⟨_,rfl⟩
 rw [show C1.toArray.toList=C1 by simp,←hC2] at hcl
 have hFin:Hid ((W1.setRow g C2.toArray).ownsRow B 43 4 (.slice (some ⟨g,0,none⟩) (n-1) cap) (n-1) (cellsMb (cutM M i) (n-1))∧w.grownBy (W1.setRow g C2.toArray) (some g)):=by
  rw [hW1,setRow_setRow]
  refine ⟨⟨by rw [cellsMb_len],Or.inr ⟨g,cap,C2.toArray,rfl,hBg,setRow_heap w.drew g cur _ _ _ hcur,by omega,by unfold maxLen;omega,?_,?_⟩⟩,grown_trans (grown_drew (grown_refl w _)) (grown_setRow ..)⟩
  ·rw [List.size_toArray,hC2]
   simp only [List.length_append,List.length_take,List.length_drop,hzz,hl1]
   omega
  ·rw [show C2.toArray.toList=C2 by simp,hC2,hcut,←ht1,List.append_assoc]
   exact take_join (by rw [List.length_take,hl1];omega)
 obtain ⟨W2,hW2⟩:∃ W2,W1.setRow g C2.toArray=W2:=⟨_,rfl⟩
 rw [hW2] at hFin hcl
 have hn':(n:Int)≤12:=by omega
 have hi':(i:Int)<(n:Int):=by omega
 have hc':(n:Int)≤(cap:Int):=by omega
 have htn:((i:Int)+1).toNat=i+1:=by omega
 have hb1:(0:Int)≤(i:Int)+1:=by omega
 have hb2:(i:Int)+1≤(n:Int):=by omega
 have hb3:(i:Int)+1≤(cap:Int):=by omega
 have hb4:(i:Int)≤(cap:Int):=by omega
 have hic:i≤cap:=by omega
 have hjc:i+1≤cap:=by omega
 have hRn:Hid (n-1=i+(n-(i+1))):=by show _=_;omega
 have hcl2:∀ c,c=cap-(n-1)→(Builtin.clear_ #[39] 0 #[.slice (some ⟨g,(i+(n-(i+1)))*4,none⟩) (n-(i+(n-(i+1)))) c]).run Tryz.prog W1=.ok (.tuple #[]) W2:=fun c hc=>by
  rw [show n-(i+(n-(i+1)))=1 by omega,show i+(n-(i+1))=n-1 by omega,hc]
  exact hcl
 have hcl3:=hcl2 (cap-(i+(n-(i+1)))) (by omega)
 clear hl1 hC1 hC2 hdl hW1 hW1h hR hR2 hcur hcs hct hcl0 hnews hXl hXS hcut ht1 hzz hcl hcl2 hW2
 go_enter Tryz.func67,Tryz.ntmps67
 go_wp2_with fail
 go_region_law (refine step_append_room rfl (.tmp 22) (.tmp 25) 39 rfl 43 i0 4 Tryz.underlying39 hi0 hz1 g 0 i cap (by simp [Act.eval,Act.put]) A (n-(i+1)) (cap-(i+1)) news (by simp [Act.eval,Act.put]) s1.out hsrc.out s2.out (by omega) s3.out ?_;rw [←HW.out])
 go_wp2_with fail
 go_ret
 refine ⟨?_,hFin.out⟩
 rw [hRn.out]
 rfl
def atM (k:Nat) (i:Int) (x:EnL):Bool:=decide (x.e.pl.getD k 0=i)
def wrAt (l:List En) (k:Nat) (i:Int):Bool:=l.any fun e=>decide (e.pl.getD k 0=i)
theorem wrAt_lE (ys:List EnL) (k:Nat) (i:Int):ys.any (atM k i)=wrAt (lE ys) k i:=by
 unfold wrAt lE
 rw [List.any_map]
 rfl
def boxD (g k:Nat) (A:Option Addr) (n c:Nat):Array Value := #[.pointer (some ⟨g,k*3,none⟩),.int .i64 (k:Int),.slice A n c]
theorem wr1_in:EntersO 94:=fun args w=>by simp [callFunc,Tryz.func94];rfl
theorem rm2_in:EntersO 70:=fun args w=>by simp [callFunc,Tryz.func70];rfl
theorem rm1_in:EntersO 66:=fun args w=>by simp [callFunc,Tryz.func66];rfl
theorem rn1_in:EntersO 72:=fun args w=>by simp [callFunc,Tryz.func72];rfl
set_option maxHeartbeats 2000000 in
theorem wr1_any (x:EnL) (q1 q2 q k:Nat) (i:Int) (w:World) (h1:w.cell? ⟨q1,0,none⟩=some (.pointer (some ⟨q,0,none⟩))) (h2:w.cell? ⟨q2,0,none⟩=some (.int .i64 i)) (hq:w.cell? ⟨q,1,none⟩=some (.int .i64 (k:Int))) (hk:k<x.e.pl.length) (h4:x.e.pl.length≤4) (hP:PlAt w x.A x.c x.e.pl) :
  Calls Tryz.prog 94 #[.agg #[.slice x.A x.e.pl.length x.c,.int .i64 x.e.n],.pointer (some ⟨q1,0,none⟩),.pointer (some ⟨q2,0,none⟩)] w fun e w'=>e=.returned (.bool (atM k i x))∧Below w.heap.size w w':=by
 obtain ⟨hlc,h0 | ⟨b,o,hA,hb,hcell⟩⟩:=hP
 ·rw [h0] at hk;simp at hk
 rw [hA]
 obtain ⟨y,hy⟩:∃ y,w.alloc (.cells #[.slice (some ⟨b,o,none⟩) x.e.pl.length x.c,.int .i64 x.e.n] 51)=y:=⟨_,rfl⟩
 have hBy:Below w.heap.size w y:=by rw [←hy];go_grown
 have hyb:y.heap[w.heap.size]?=some (.cells #[.slice (some ⟨b,o,none⟩) x.e.pl.length x.c,.int .i64 x.e.n] 51 (0,0)):=by rw [←hy];exact heap_alloc_new ..
 have l0:y.cell? ⟨w.heap.size,0,none⟩=some (.slice (some ⟨b,o,none⟩) x.e.pl.length x.c):=(Lib.cell_of_heap hyb 0).trans rfl
 have g1:=(hBy.cell (p:=⟨q1,0,none⟩) (World.block_lt_of_cell? _ _ h1)).trans h1
 have g2:=(hBy.cell (p:=⟨q2,0,none⟩) (World.block_lt_of_cell? _ _ h2)).trans h2
 have g3:=(hBy.cell (p:=⟨q,1,none⟩) (World.block_lt_of_cell? _ _ hq)).trans hq
 have g4:=(hBy.cell (p:=⟨b,o+k,none⟩) hb).trans (hcell k hk)
 have hki:(k:Int)<(x.e.pl.length:Int):=by omega
 have hlI:(x.e.pl.length:Int)≤4:=by omega
 have HB:=hid_of hBy
 unfold atM
 generalize x.e.pl.getD k 0=v at g4 ⊢
 generalize x.e.pl.length=m at hy l0 hki hlI ⊢
 generalize x.e.n=N at hy ⊢
 clear hyb hBy h1 h2 hq hcell hlc hA hk h4
 go_enter Tryz.func94,Tryz.ntmps94
 go_upto_region 1 with fail
 go_quiet (fail)
 go_wp2_with fail
 go_ret
 exact ⟨rfl,below_drewN HB.out _⟩
set_option maxHeartbeats 2000000 in
theorem rm2_any (x:EnL) (q1 q2 q k:Nat) (i:Int) (w:World) (h1:w.cell? ⟨q1,0,none⟩=some (.pointer (some ⟨q,0,none⟩))) (h2:w.cell? ⟨q2,0,none⟩=some (.int .i64 i)) (hq:w.cell? ⟨q,1,none⟩=some (.int .i64 (k:Int))) (hk:k<x.e.pl.length) (h4:x.e.pl.length≤4) (hP:PlAt w x.A x.c x.e.pl) :
  Calls Tryz.prog 70 #[.agg #[.slice x.A x.e.pl.length x.c,.int .i64 x.e.n],.pointer (some ⟨q1,0,none⟩),.pointer (some ⟨q2,0,none⟩)] w fun e w'=>e=.returned (.bool (atM k i x))∧Below w.heap.size w w':=by
 obtain ⟨hlc,h0 | ⟨b,o,hA,hb,hcell⟩⟩:=hP
 ·rw [h0] at hk;simp at hk
 rw [hA]
 obtain ⟨y,hy⟩:∃ y,w.alloc (.cells #[.slice (some ⟨b,o,none⟩) x.e.pl.length x.c,.int .i64 x.e.n] 51)=y:=⟨_,rfl⟩
 have hBy:Below w.heap.size w y:=by rw [←hy];go_grown
 have hyb:y.heap[w.heap.size]?=some (.cells #[.slice (some ⟨b,o,none⟩) x.e.pl.length x.c,.int .i64 x.e.n] 51 (0,0)):=by rw [←hy];exact heap_alloc_new ..
 have l0:y.cell? ⟨w.heap.size,0,none⟩=some (.slice (some ⟨b,o,none⟩) x.e.pl.length x.c):=(Lib.cell_of_heap hyb 0).trans rfl
 have g1:=(hBy.cell (p:=⟨q1,0,none⟩) (World.block_lt_of_cell? _ _ h1)).trans h1
 have g2:=(hBy.cell (p:=⟨q2,0,none⟩) (World.block_lt_of_cell? _ _ h2)).trans h2
 have g3:=(hBy.cell (p:=⟨q,1,none⟩) (World.block_lt_of_cell? _ _ hq)).trans hq
 have g4:=(hBy.cell (p:=⟨b,o+k,none⟩) hb).trans (hcell k hk)
 have hki:(k:Int)<(x.e.pl.length:Int):=by omega
 have hlI:(x.e.pl.length:Int)≤4:=by omega
 have HB:=hid_of hBy
 unfold atM
 generalize x.e.pl.getD k 0=v at g4 ⊢
 generalize x.e.pl.length=m at hy l0 hki hlI ⊢
 generalize x.e.n=N at hy ⊢
 clear hyb hBy h1 h2 hq hcell hlc hA hk h4
 go_enter Tryz.func70,Tryz.ntmps70
 go_upto_region 1 with fail
 go_quiet (fail)
 go_wp2_with fail
 go_ret
 exact ⟨rfl,below_drewN HB.out _⟩
theorem rm1_any (m:Mem) (q:Nat) (i:Int) (w:World) (hq:q<w.heap.size) (h:w.cell? ⟨q,0,none⟩=some (.int .i64 i)):Calls Tryz.prog 66 #[memV m,.pointer (some ⟨q,0,none⟩)] w fun e w'=>e=.returned (.bool (decide (m.parent=i)))∧Below w.heap.size w w':=by
 unfold memV
 go_enter Tryz.func66,Tryz.ntmps66
 go_wp2_with fail
 go_ret
 exact ⟨by first | rfl | (simp;rfl),by go_grown⟩
theorem rn1_any (m:Mem) (q:Nat) (s:ByteArray) (w:World) (hq:q<w.heap.size) (h:w.cell? ⟨q,0,none⟩=some (.string s)):Calls Tryz.prog 72 #[memV m,.pointer (some ⟨q,0,none⟩)] w fun e w'=>e=.returned (.bool (same m.name s))∧Below w.heap.size w w':=by
 unfold memV
 go_enter Tryz.func72,Tryz.ntmps72
 go_wp2_with fail
 go_ret
 exact ⟨by simp [same],by go_grown⟩
def wo (i x:Int):Int:=if i<x then x-1 else x
theorem wo_any (i x:Int) (w:World) (h0 : -9223372036854775807≤x) (h1:x≤9223372036854775807):Calls Tryz.prog 68 #[.int .i64 i,.int .i64 x] w fun e w'=>e=.returned (.int .i64 (wo i x))∧w'=w:=by
 have hw:IntKind.i64.wrap (x-1)=x-1:=IntWalk.i64_in _ (by omega)
 unfold wo
 by_cases h:i<x
 ·rw [if_pos h]
  go_enter Tryz.func68,Tryz.ntmps68
  go_wp2_with fail
  go_ret
  exact ⟨rfl,rfl⟩
 ·rw [if_neg h]
  have h':x≤i:=by omega
  go_enter Tryz.func68,Tryz.ntmps68
  go_wp2_with fail
  go_ret
  exact ⟨rfl,rfl⟩
def putD (D:Nat→Dm) (k:Nat) (d:Dm):Nat→Dm:=fun i=>if i=k then d else D i
theorem putD_at (D:Nat→Dm) (k:Nat) (d:Dm):putD D k d k=d:=if_pos rfl
theorem putD_off (D:Nat→Dm) {k i:Nat} (d:Dm) (h:i≠k):putD D k d i=D i:=if_neg h
structure DrA (w:World) (B q g cd n k ge ce:Nat) (D:Nat→Dm) (G C:Nat→Nat) (ys:List EnL):Prop where
 box:w.heap[q]?=some (.cells (boxD g k (some ⟨ge,0,none⟩) ys.length ce) 74 (0,0))
 low:B≤q
 own:OwD w B g cd n D G C
 ents:OwE w B ge ce ys
 kn:k<n
 n4:n≤4
 few:ys.length≤3000
 len:∀ y∈ys,y.e.pl.length=n
section
variable {w w':World} {B q g cd n k ge ce:Nat} {D:Nat→Dm} {G C:Nat→Nat} {ys:List EnL}
theorem OwE.later {w w':World} {B g cap:Nat} {ys:List EnL} (h:OwE w B g cap ys) (hB:Below w.heap.size w w'):OwE w' B g cap ys :=
 ⟨h.row.later hB,h.low,fun y hy=>(h.each y hy).later hB,h.apart⟩
theorem OwE.keep {w w':World} {B g cap:Nat} {ys:List EnL} (h:OwE w B g cap ys) (hk:∀ b cs e,B≤b→w.heap[b]?=some (.cells cs e (0,0))→e=51∨e=3→w'.heap[b]?=w.heap[b]?):OwE w' B g cap ys:=by
 have hea:∀ y∈ys,PlO w' B y.A y.c y.e.pl:=fun y hy=>by
  obtain ⟨b,h1,h2⟩:=h.each y hy
  exact ⟨b,h1,ow_keep h2 fun b cs hb hg=>hk b cs _ hb hg (Or.inr rfl)⟩
 obtain ⟨⟨cur,h1,h2,h3⟩,h4,h5,h6⟩:=h.row
 exact ⟨⟨⟨cur,(hk _ _ _ h.low h1 (Or.inl rfl)).trans h1,h2,h3⟩,h4,h5,fun x hx=>(hea x hx).ty⟩,h.low,hea,h.apart⟩
theorem DrA.later (h:DrA w B q g cd n k ge ce D G C ys) (hB:Below w.heap.size w w'):DrA w' B q g cd n k ge ce D G C ys :=
 ⟨(hB.block _ (Array.getElem?_eq_some_iff.1 h.box).1).trans h.box,h.low,h.own.later hB,h.ents.later hB,h.kn,h.n4,h.few,h.len⟩
theorem DrA.lt (h:DrA w B q g cd n k ge ce D G C ys):q<w.heap.size:=(Array.getElem?_eq_some_iff.1 h.box).1
theorem DrA.cells (h:DrA w B q g cd n k ge ce D G C ys):w.cell? ⟨q,0,none⟩=some (.pointer (some ⟨g,k*3,none⟩))∧w.cell? ⟨q,1,none⟩=some (.int .i64 (k:Int))∧w.cell? ⟨q,2,none⟩=some (.slice (some ⟨ge,0,none⟩) ys.length ce)∧∀ j,w.frozen? ⟨q,j,none⟩=false :=
 ⟨(Lib.cell_of_heap h.box 0).trans rfl,(Lib.cell_of_heap h.box 1).trans rfl,(Lib.cell_of_heap h.box 2).trans rfl,fun j=>Lib.frozen_of_heap h.box j⟩
theorem DrA.dim (h:DrA w B q g cd n k ge ce D G C ys):w.cell? ⟨g,k*3,none⟩=some (.string (D k).name)∧w.cell? ⟨g,k*3+1,none⟩=some (.int .i64 (D k).solve)∧w.cell? ⟨g,k*3+2,none⟩=some (.slice (some ⟨G k,0,none⟩) (D k).n (C k))∧∀ j,w.frozen? ⟨g,j,none⟩=false:=by
 have hk:=h.kn
 obtain ⟨x0,x1,x2⟩:=cellsDo_at D (fun i=>some ⟨G i,0,none⟩) C n k hk
 exact ⟨by rw [h.own.dims.cellAt _ (by omega)];exact x0,by rw [h.own.dims.cellAt _ (by omega)];exact x1,by rw [h.own.dims.cellAt _ (by omega)];exact x2,fun j=>h.own.dims.frozenAt j⟩
theorem DrA.row (h:DrA w B q g cd n k ge ce D G C ys):w.ownsRow B 43 4 (.slice (some ⟨G k,0,none⟩) (D k).n (C k)) (D k).n (cellsMb (D k).mem (D k).n):=h.own.mems k h.kn
theorem DrA.mems (h:DrA w B q g cd n k ge ce D G C ys):MemsAt w (G k) 0 (D k).n (D k).mem:=ow_mems h.row
end
set_option maxHeartbeats 1000000 in
theorem written_any (B q g cd n k ge ce:Nat) (D:Nat→Dm) (G C:Nat→Nat) (ys:List EnL) (i:Int) (w:World) (h:DrA w B q g cd n k ge ce D G C ys) :
  Calls Tryz.prog 64 #[.pointer (some ⟨q,0,none⟩),.int .i64 i] w fun e w'=>e=.returned (.bool (wrAt (lE ys) k i))∧Below w.heap.size w w':=by
 rw [←wrAt_lE]
 obtain ⟨W,hW⟩:∃ W,(w.alloc (.cells #[.pointer (some ⟨q,0,none⟩)] 96)).alloc (.cells #[.int .i64 i] 3)=W:=⟨_,rfl⟩
 have hBW:Below w.heap.size w W:=by rw [←hW];go_grown
 have k1:W.heap[w.heap.size]?=some (.cells #[.pointer (some ⟨q,0,none⟩)] 96 (0,0)):=by rw [←hW,Below.heap_alloc _ _ _ (by simp)];exact heap_alloc_new ..
 have k2:W.heap[w.heap.size+1]?=some (.cells #[.int .i64 i] 3 (0,0)):=by
  have:=heap_alloc_new (w.alloc (.cells #[.pointer (some ⟨q,0,none⟩)] 96)) (.cells #[.int .i64 i] 3)
  rw [show (w.alloc (.cells #[.pointer (some ⟨q,0,none⟩)] 96)).heap.size=w.heap.size+1 by simp] at this
  rw [←hW];exact this
 have hd:=h.later hBW
 have l0:W.cell? ⟨w.heap.size,0,none⟩=some (.pointer (some ⟨q,0,none⟩)):=(Lib.cell_of_heap k1 0).trans rfl
 have l1:W.cell? ⟨w.heap.size+1,0,none⟩=some (.int .i64 i):=(Lib.cell_of_heap k2 0).trans rfl
 obtain ⟨c0,c1,c2,-⟩:=hd.cells
 have hcon:=contains_ents 94 w.heap.size (w.heap.size+1) wr1_in (some ⟨ge,0,none⟩) ce ys (atM k i) none W h.few hd.ents.row.ensV fun x w' hx hg=>wr1_any x _ _ q k i w'
  (hg.cell l0 (by simp)) (hg.cell l1 (by simp)) (hg.cell c1 (by simp)) (by rw [h.len x hx];exact h.kn) (by rw [h.len x hx];exact h.n4) (by
   obtain ⟨b,e1,o1⟩:=hd.ents.each x hx
   exact (PlO.ty ⟨b,e1,o1.kept hg (Or.inr (by simp [Value.ownBlock]))⟩).pl)
 have HB:=hid_of hBW
 generalize ys.any (atM k i)=r at hcon ⊢
 generalize ys.length=m at hcon c2
 clear k1 k2 h hd hBW
 go_enter Tryz.func64,Tryz.ntmps64
 go_wp2_with fail
 refine hcon.mono ?_
 rintro e w1 ⟨rfl,hb1⟩
 go_wp2_with fail
 go_ret
 exact ⟨rfl,onB HB.out hb1⟩
set_option maxHeartbeats 1000000 in
theorem anyM_any (fn qc:Nat) (he:EntersO fn) (B q g cd n k ge ce:Nat) (D:Nat→Dm) (G C:Nat→Nat) (ys:List EnL) (p:Mem→Bool) (w:World) (hn:(D k).n≤12) (h:DrA w B q g cd n k ge ce D G C ys) (hp:AskM fn qc w (D k).n (D k).mem fun j=>p ((D k).mem j)) :
  Calls Tryz.prog 65 #[.pointer (some ⟨q,0,none⟩),.func (.func fn) #[] #[.pointer (some ⟨qc,0,none⟩)]] w fun e w'=>e=.returned (.bool (decide (0≤findFrom (fun j=>p ((D k).mem j)) (D k).n 0)))∧Below w.heap.size w w':=by
 obtain ⟨c0,c1,c2,-⟩:=h.cells
 obtain ⟨-,-,d2,-⟩:=h.dim
 have hcon:=contains_mems fn qc he (G k) 0 (D k).n (C k) (D k).mem _ w hn h.mems hp
 generalize decide (0≤findFrom (fun j=>p ((D k).mem j)) (D k).n 0)=r at hcon ⊢
 generalize (D k).n=m at hcon d2
 clear h hp he
 go_enter Tryz.func65,Tryz.ntmps65
 go_wp2_with fail
 refine hcon.mono ?_
 rintro e w1 ⟨rfl,hb1⟩
 go_wp2_with fail
 go_ret
 exact ⟨rfl,hb1⟩
end Go.Proofs.YtfldgghobddgkaaGreatDoor
