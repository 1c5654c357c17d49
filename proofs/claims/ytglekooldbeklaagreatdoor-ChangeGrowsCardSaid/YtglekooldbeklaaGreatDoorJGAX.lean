/-
  slices.IndexFunc, ContainsFunc and DeleteFunc over entries, at any question with two captured boxes that is told of an entry alone.
-/
import Derived.Test.YtglekooldbeklaaGreatDoorJGAW
namespace Go.Proofs.YtglekooldbeklaaGreatDoor
open Go.ChangeShapes Go.WideShapes Go.ChangeAt Go.RowKit Go.Lib
set_option maxRecDepth 100000
def AskE (F q1 q2:Nat) (r:Option Nat) (w:World) (xs:List EnL) (p:EnL→Bool):Prop := ∀ (x:EnL) (w':World),x∈xs→w.grownBy w' r→Calls Tryz.prog F #[.agg #[.slice x.A x.e.pl.length x.c,.int .i64 x.e.n],.pointer (some ⟨q1,0,none⟩),.pointer (some ⟨q2,0,none⟩)] w' fun e w''=>e=.returned (.bool (p x))∧Below w'.heap.size w' w''
def pE (xs:List EnL) (p:EnL→Bool) (j:Nat):Bool:=p (xs.getD j noL)
set_option maxHeartbeats 1000000 in
theorem index_ents (F q1 q2:Nat) (he:EntersO F) (A:Option Addr) (c:Nat) (xs:List EnL) (p:EnL→Bool) (r:Option Nat) (w:World) (hn:xs.length≤3000) (hE:EnsV w A c xs) (hp:AskE F q1 q2 r w xs p) :
  Calls Tryz.prog 99 #[.slice A xs.length c,.func (.func F) #[] #[.pointer (some ⟨q1,0,none⟩),.pointer (some ⟨q2,0,none⟩)]] w fun e w'=>e=.returned (.int .i64 (findFrom (pE xs p) xs.length 0))∧Below w.heap.size w w':=by
 have HE:=hid_of hE
 have HP:=hid_of hp
 obtain ⟨n,hnn⟩:∃ n,xs.length=n:=⟨_,rfl⟩
 have HN:=hid_of hnn
 rw [hnn] at hn ⊢
 have hnI:(n:Int)≤3000:=by omega
 clear hE hp hnn
 unfold EntersO at he
 go_enter Tryz.func99,Tryz.ntmps99
 go_wp2_with fail
 go_loopg [8] n (fun g s8 wr => ∃ (k:Nat),k≤n∧g=n-k∧s8=.int .i64 k∧findFrom (pE xs p) (n-k) k=findFrom (pE xs p) n 0∧Below w.heap.size w wr)
 case atStart=>exact ⟨0,Nat.zero_le _,rfl,rfl,rfl,Below.refl _ _⟩
 case round =>
  obtain ⟨k,hk,rfl,rfl,hf,hBw⟩:=hrel
  by_cases hlt:k<n
  ·obtain ⟨-,-,h0 | ⟨b,o,rfl,hEs⟩⟩:=HE.out.later hBw
   ·have:=HN.out;rw [h0] at this;simp at this;omega
   obtain ⟨h0,h1⟩:=hEs.at (k:=k) (by rw [HN.out];exact hlt)
   have hki:(k:Int)<(n:Int):=by omega
   have HF:=hid_of hf
   have HW:=hid_of hBw
   have hsk:n-k=(n-(k+1))+1:=by omega
   have hbd:=HP.out (xs.getD k noL) wr (enl_mem (by rw [HN.out];exact hlt)) (grown_below hBw)
   have hpe:pE xs p k=p (xs.getD k noL):=rfl
   have HPE:=hid_of hpe
   generalize xs.getD k noL=x at h0 h1 hbd HPE hpe
   generalize x.e.pl.length=m at h0 hbd
   generalize x.e.n=N at h1 hbd
   clear hf hBw hEs hpe
   cases hb:p x
   ·rw [hb] at hbd HPE
    clear hb
    go_wp2_with fail
    refine hbd.mono ?_
    rintro e w1 ⟨rfl,hb1⟩
    go_wp2_with fail
    go_roundg (n-(k+1))
    case measure=>omega
    case rel=>exact ⟨k+1,by omega,rfl,by go_num,by rw [←HF.out,hsk,findFrom_miss _ HPE.out],onB HW.out hb1⟩
   ·rw [hb] at hbd HPE
    clear hb
    go_wp2_with fail
    refine hbd.mono ?_
    rintro e w1 ⟨rfl,hb1⟩
    go_wp2_with fail
    go_ret
    exact ⟨by rw [←HF.out,hsk,findFrom_hit _ HPE.out];rfl,onB HW.out hb1⟩
  ·have hke:k=n:=by omega
   subst hke
   go_wp2_with fail
   go_ret
   exact ⟨by rw [←hf,Nat.sub_self];rfl,hBw⟩
theorem any_findE (xs:List EnL) (p:EnL→Bool):decide (0≤findFrom (pE xs p) xs.length 0)=xs.any p:=by
 rcases findFrom_cases (pE xs p) xs.length 0 with ⟨h1,h2⟩ | ⟨k,h1,_,h3,h4,_⟩
 ·rw [h1]
  have:xs.any p=false:=by
   rw [List.any_eq_false]
   intro x hx
   obtain ⟨j,hj,rfl⟩:=List.getElem_of_mem hx
   have h:=h2 j (Nat.zero_le _) (by omega)
   unfold pE at h
   rw [List.getD_eq_getElem?_getD,List.getElem?_eq_getElem hj] at h
   simpa using h
  rw [this];rfl
 ·rw [h1]
  have:xs.any p=true:=by
   rw [List.any_eq_true]
   exact ⟨_,enl_mem (by omega),h4⟩
  rw [this]
  exact decide_eq_true (by omega)
theorem contains_ents (F q1 q2:Nat) (he:EntersO F) (A:Option Addr) (c:Nat) (xs:List EnL) (p:EnL→Bool) (r:Option Nat) (w:World) (hn:xs.length≤3000) (hE:EnsV w A c xs) (hp:AskE F q1 q2 r w xs p) :
  Calls Tryz.prog 96 #[.slice A xs.length c,.func (.func F) #[] #[.pointer (some ⟨q1,0,none⟩),.pointer (some ⟨q2,0,none⟩)]] w fun e w'=>e=.returned (.bool (xs.any p))∧Below w.heap.size w w':=by
 have h:=index_ents F q1 q2 he A c xs p r w hn hE hp
 rw [←any_findE]
 generalize findFrom (pE xs p) xs.length 0=f at h ⊢
 generalize xs.length=n at h ⊢
 clear hE hp
 go_enter Tryz.func96,Tryz.ntmps96
 go_wp2_with fail
 refine h.mono ?_
 rintro e w1 ⟨rfl,hb1⟩
 go_wp2_with fail
 go_ret
 exact ⟨rfl,hb1⟩
/-! what stays, entry by entry -/
theorem run_clear_m {P:Program} (m:Nat) (w:World) (t e ty:TypeId) (z x y:Value) (ht:P.underlying t=some (.slice e)) (hv:∀ w,(zeroValue e).run P w=.ok z w) (hz:z.cells=#[x,y]) (hx:x.oneCell'=true) (hy:y.oneCell'=true) (g o c:Nat) (cur:Array Value) (u:TypeId) (hg:w.heap[g]?=some (.cells cur u (0,0))) (hfit:o+m*2≤cur.size) (hm:0<m) :
  ∃ zs:List Value,zs.length=m*2∧(Builtin.clear_ #[t] ty #[.slice (some ⟨g,o,none⟩) m c]).run P w=.ok (.tuple #[]) (w.setRow g (cur.toList.take o ++ zs ++ cur.toList.drop (o+m*2)).toArray):=by
 have hsz:(Builtin.zeroCells z.cells m).size=m*2:=by rw [hz];simp [Builtin.zeroCells]
 have hone:∀ v∈(Builtin.zeroCells z.cells m).toList,v.oneCell'=true:=by
  rw [hz]
  intro v hv'
  obtain ⟨j,hj,rfl⟩:=List.getElem_of_mem hv'
  simp only [Builtin.zeroCells,Array.getElem_toList]
  rcases Nat.mod_two_eq_zero_or_one j with h | h <;> simp [h,hx,hy]
 have hst:=run_storeCells_at P g o u (Builtin.zeroCells z.cells m).toList 0 cur w hg (by simpa [hsz] using hfit) hone
 refine ⟨(Builtin.zeroCells z.cells m).toList,by simpa using hsz,?_⟩
 have hsz2:(Builtin.zeroCells z.cells m).toList.length=m*2:=by simpa using hsz
 simp only [Nat.add_zero] at hst
 rw [hsz2] at hst
 obtain ⟨m,rfl⟩:∃ k,m=k+1:=⟨m-1,by omega⟩
 simp [Builtin.clear_,run_underlying ht,hv,hst]
def DInvE (xs:List EnL) (p:EnL→Bool) (i j:Nat) (zs:List EnL):Prop:=i<j∧zs.length=xs.length∧zs.take i=(xs.take j).filter (fun x => !p x)∧zs.drop j=xs.drop j
theorem takeE_one {L:List EnL} {j:Nat} (h:j<L.length):L.take (j+1)=L.take j ++ [L.getD j noL]:=by
 rw [List.take_succ_eq_append_getElem h,List.getD_eq_getElem?_getD,List.getElem?_eq_getElem h]
 rfl
theorem dropE (l:List EnL) (j:Nat):l.drop (j+1)=(l.drop j).drop 1:=by rw [List.drop_drop]
theorem DInvE.at {xs zs:List EnL} {p:EnL→Bool} {i j:Nat} (h:DInvE xs p i j zs) (_:j<xs.length):zs.getD j noL=xs.getD j noL:=by
 obtain ⟨h1,h2,h3,h4⟩:=h
 have:=congrArg (fun l:List EnL=>l.getD 0 noL) h4
 simpa [List.getD_eq_getElem?_getD,List.getElem?_drop] using this
theorem dinvE_start {xs:List EnL} {p:EnL→Bool} {k:Nat} (hk:k<xs.length) (hp:p (xs.getD k noL)=true) (hn:∀ j,j<k→p (xs.getD j noL)=false):DInvE xs p k (k+1) xs:=by
 refine ⟨by omega,rfl,?_,rfl⟩
 rw [takeE_one hk,List.filter_append]
 have:(xs.take k).filter (fun x => !p x)=xs.take k:=by
  rw [List.filter_eq_self]
  intro x hx
  obtain ⟨j,hj,rfl⟩:=List.getElem_of_mem hx
  have hj2:j<k:=by rw [List.length_take] at hj;omega
  have h:=hn j hj2
  rw [List.getD_eq_getElem?_getD,List.getElem?_eq_getElem (by omega)] at h
  simpa using h
 rw [this]
 generalize xs.getD k noL=x at hp
 simp [hp]
theorem dinvE_skip {xs zs:List EnL} {p:EnL→Bool} {i j:Nat} (h:DInvE xs p i j zs) (hj:j<xs.length) (hp:p (xs.getD j noL)=true):DInvE xs p i (j+1) zs:=by
 obtain ⟨h1,h2,h3,h4⟩:=h
 refine ⟨by omega,h2,?_,?_⟩
 ·rw [takeE_one hj,List.filter_append,h3]
  generalize xs.getD j noL=x at hp
  simp [hp]
 ·rw [dropE zs j,dropE xs j,h4]
theorem dinvE_keep {xs zs:List EnL} {p:EnL→Bool} {i j:Nat} (h:DInvE xs p i j zs) (hj:j<xs.length) (hp:p (xs.getD j noL)=false):DInvE xs p (i+1) (j+1) (zs.set i (xs.getD j noL)):=by
 obtain ⟨h1,h2,h3,h4⟩:=h
 refine ⟨by omega,by simpa using h2,?_,?_⟩
 ·have hl:i<(zs.set i (xs.getD j noL)).length:=by simp;omega
  rw [takeE_one hl,takeE_one hj,List.filter_append,←h3,List.take_set_of_le (Nat.le_refl _)]
  have:(zs.set i (xs.getD j noL)).getD i noL=xs.getD j noL:=by simp [List.getD_eq_getElem?_getD,show i<zs.length by omega]
  rw [this]
  generalize xs.getD j noL=x at hp
  simp [hp]
 ·rw [List.drop_set_of_lt (by omega),dropE zs j,dropE xs j,h4]
theorem cellsE_put {xs:List EnL} (x:EnL):∀ {i:Nat},i<xs.length→((cellsE xs).set (i*2) (.slice x.A x.e.pl.length x.c)).set (i*2+1) (.int .i64 x.e.n)=cellsE (xs.set i x):=by
 induction xs with
 | nil=>intro i h;cases h
 | cons y r ih =>
  intro i hi
  cases i with
  | zero=>simp [cellsE]
  | succ i =>
   rw [show (i+1)*2=i*2+1+1 by omega]
   simp only [cellsE,List.set_cons_succ]
   rw [ih (by simpa using hi)]
theorem RowE.putAt {w:World} {g cap:Nat} {xs:List EnL} (h:RowE w g cap xs) {i:Nat} (hi:i<xs.length) {x:EnL} (hx:PlTy w x.A x.c x.e.pl):RowE ((w.setCell ⟨g,i*2,none⟩ (.slice x.A x.e.pl.length x.c)).setCell ⟨g,i*2+1,none⟩ (.int .i64 x.e.n)) g cap (xs.set i x)∧w.grownBy ((w.setCell ⟨g,i*2,none⟩ (.slice x.A x.e.pl.length x.c)).setCell ⟨g,i*2+1,none⟩ (.int .i64 x.e.n)) (some g):=by
 have h1:=h.own (base:=0) (Nat.zero_le _)
 have h2:=h1.stored (i*2) (.slice x.A x.e.pl.length x.c)
 have h3:=h2.1.stored (i*2+1) (.int .i64 x.e.n)
 have hg:=grown_trans h2.2 h3.2
 refine ⟨?_,hg⟩
 have h4:=h3.1
 rw [cellsE_put x hi,show xs.length=(xs.set i x).length by simp] at h4
 obtain ⟨⟨cur,hc,-⟩,-⟩:=id h
 obtain ⟨g',cap',e,-,hr⟩:=row_own h4 (by simp) fun y hy=>(by
  rcases List.mem_or_eq_of_mem_set hy with hy | rfl
  ·exact (h.2.2.2 y hy).grown hc hg
  ·exact hx.grown hc hg:PlTy _ y.A y.c y.e.pl)
 cases e
 exact hr
set_option maxHeartbeats 8000000 in
theorem delf_ents (F q1 q2:Nat) (he:EntersO F) (g c:Nat) (xs:List EnL) (p:EnL→Bool) (w:World) (hn:xs.length≤3000) (hR:RowE w g c xs) (hp:AskE F q1 q2 (some g) w xs p) :
  Calls Tryz.prog 68 #[.slice (some ⟨g,0,none⟩) xs.length c,.func (.func F) #[] #[.pointer (some ⟨q1,0,none⟩),.pointer (some ⟨q2,0,none⟩)]] w fun e w'=>e=.returned (.slice (some ⟨g,0,none⟩) (xs.filter fun x => !p x).length c)∧RowE w' g c (xs.filter fun x => !p x)∧w.grownBy w' (some g):=by
 have hix:=index_ents F q1 q2 he (some ⟨g,0,none⟩) c xs p (some g) w hn hR.ensV hp
 have HR:=hid_of hR
 rcases findFrom_cases (pE xs p) xs.length 0 with ⟨h1,h2⟩ | ⟨k,h1,_,h3,h4,h5⟩
 ·have hf:(xs.filter fun x => !p x)=xs:=by
   rw [List.filter_eq_self]
   intro x hx
   obtain ⟨j,hj,rfl⟩:=List.getElem_of_mem hx
   have h:=h2 j (Nat.zero_le _) (by omega)
   unfold pE at h
   rw [List.getD_eq_getElem?_getD,List.getElem?_eq_getElem hj] at h
   simpa using h
  rw [h1] at hix
  rw [hf]
  generalize xs.length=n at hix
  clear hR hp h1 h2 hf
  go_enter Tryz.func68,Tryz.ntmps68
  go_wp2_with fail
  refine hix.mono ?_
  rintro e w1 ⟨rfl,hb1⟩
  go_wp2_with fail
  go_ret
  exact ⟨rfl,HR.out.later hb1,grown_below hb1⟩
 ·have hk:k<xs.length:=by omega
  have HSt:=hid_of (dinvE_start hk h4 fun j hj=>h5 j (Nat.zero_le _) hj)
  have HP:=hid_of hp
  have hcm:=hR.2.2.1
  have hlc:=hR.2.1
  rw [h1] at hix
  obtain ⟨n,hnn⟩:∃ n,xs.length=n:=⟨_,rfl⟩
  have HN:=hid_of hnn
  rw [hnn] at hix hk hn hlc ⊢
  have hki:(k:Int)<(n:Int):=by omega
  have hnI:(n:Int)≤3000:=by omega
  have hne:((k:Int) == -1)=false:=by
   have:(k:Int)≠-1:=by omega
   simp only [beq_eq_false_iff_ne];exact this
  clear hR hp h1 h3 h4 h5 hnn
  unfold EntersO at he
  go_enter Tryz.func68,Tryz.ntmps68
  go_wp2_with fail
  refine hix.mono ?_
  rintro e w1 ⟨rfl,hb1⟩
  have HG1:=hid_of (And.intro (HR.out.later hb1) (grown_below (r:=some g) hb1))
  clear hb1 hix
  go_wp2_with fail
  go_loopg [5,6] (n-(k+1)) (fun gg s5 s6 wr => ∃ (i j:Nat) (zs:List EnL),j≤n∧gg=n-j∧s5=.int .i64 i∧s6=.int .i64 j∧Hid (DInvE xs p i j zs)∧Hid (RowE wr g c zs∧w.grownBy wr (some g)))
  case atStart=>exact ⟨k,k+1,xs,by omega,rfl,rfl,by go_num,HSt,HG1⟩
  case round =>
   obtain ⟨i,j,zs,hj,rfl,rfl,rfl,HD,HG⟩:=hrel
   have hij:=HD.out.1
   have hgl:g<wr.heap.size:=HG.out.1.lt
   have hzl:zs.length=n:=by rw [HD.out.2.1];exact HN.out
   by_cases hlt:j<n
   ·have hji:(j:Int)<(n:Int):=by omega
    have hii:(i:Int)<(n:Int):=by omega
    obtain ⟨e0,e1⟩:=HG.out.1.ens.at (k:=j) (by omega)
    rw [HD.out.at (by rw [HN.out];exact hlt),Nat.zero_add] at e0 e1
    have hcl:=fun w' h=>HP.out (xs.getD j noL) w' (enl_mem (by rw [HN.out];exact hlt)) h
    have hty:PlTy wr (xs.getD j noL).A (xs.getD j noL).c (xs.getD j noL).e.pl:=by
     rw [←HD.out.at (by rw [HN.out];exact hlt)]
     exact HG.out.1.2.2.2 _ (enl_mem (by omega))
    have hDk:=fun h=>dinvE_keep HD.out (by rw [HN.out];exact hlt) h
    have hDs:=fun h=>dinvE_skip HD.out (by rw [HN.out];exact hlt) h
    generalize xs.getD j noL=x at e0 e1 hcl hty hDk hDs
    obtain ⟨y,hy⟩:∃ y,wr.alloc (.cells #[.slice x.A x.e.pl.length x.c,.int .i64 x.e.n] 77)=y:=⟨_,rfl⟩
    have hBy:Below wr.heap.size wr y:=by rw [←hy];go_grown
    have hyb:y.heap[wr.heap.size]?=some (.cells #[.slice x.A x.e.pl.length x.c,.int .i64 x.e.n] 77 (0,0)):=by rw [←hy];exact heap_alloc_new ..
    have hys:wr.heap.size<y.heap.size:=by rw [←hy];simp
    have hcl2:=hcl y (grown_trans HG.out.2 (grown_below hBy))
    have hgne:wr.heap.size≠g:=by omega
    have HBx:Hid (∀ w2,Below y.heap.size y w2→w2.cell? ⟨wr.heap.size,0,none⟩=some (.slice x.A x.e.pl.length x.c)∧w2.cell? ⟨wr.heap.size,1,none⟩=some (.int .i64 x.e.n)):=fun w2 hb=>by
     have h:=(hb.block _ hys).trans hyb
     exact ⟨(Lib.cell_of_heap h 0).trans rfl,(Lib.cell_of_heap h 1).trans rfl⟩
    have HBy:=hid_of hBy
    have HTy:=hid_of hty
    obtain ⟨l0,l1⟩:=HBx.out y (Below.refl _ y)
    cases hpx:p x
    ·rw [hpx] at hcl2
     have HD2:=hid_of (hDk hpx)
     have HPut:Hid (∀ w2,Below y.heap.size y w2→RowE ((w2.setCell ⟨g,i*2,none⟩ (.slice x.A x.e.pl.length x.c)).setCell ⟨g,i*2+1,none⟩ (.int .i64 x.e.n)) g c (zs.set i x)∧w.grownBy ((w2.setCell ⟨g,i*2,none⟩ (.slice x.A x.e.pl.length x.c)).setCell ⟨g,i*2+1,none⟩ (.int .i64 x.e.n)) (some g)):=fun w2 hb=>by
      have hb2:=onB HBy.out hb
      obtain ⟨r1,r2⟩:=(HG.out.1.later hb2).putAt (i:=i) (by omega) (HTy.out.later hb2)
      exact ⟨r1,grown_trans (grown_trans HG.out.2 (grown_below hb2)) r2⟩
     have HOld:Hid (∀ w2,Below y.heap.size y w2→(∃ u,w2.cell? ⟨g,i*2,none⟩=some u)∧(∃ u,w2.cell? ⟨g,i*2+1,none⟩=some u)∧w2.frozen? ⟨g,i*2,none⟩=false∧w2.frozen? ⟨g,i*2+1,none⟩=false):=fun w2 hb=>by
      have h:=HG.out.1.later (onB HBy.out hb)
      exact ⟨Option.isSome_iff_exists.1 (h.full (by omega)),Option.isSome_iff_exists.1 (h.full (by omega)),h.frozen _,h.frozen _⟩
     generalize x.e.pl.length=m at e0 hy hcl2 HBx HPut l0
     generalize x.e.n=N at e1 hy hcl2 HBx HPut l1
     clear hpx hDk hDs hcl hty hBy hyb hys
     go_wp2_with fail
     refine hcl2.mono ?_
     rintro e w2 ⟨rfl,hb2⟩
     obtain ⟨b0,b1⟩:=HBx.out w2 hb2
     obtain ⟨⟨o0,k0⟩,⟨o1,k1⟩,f0,f1⟩:=HOld.out w2 hb2
     have HFin:=hid_of (HPut.out w2 hb2)
     clear hb2 hcl2 HPut HOld HBx
     go_wp2_with fail
     go_roundg (n-(j+1))
     case measure=>omega
     case rel=>exact ⟨i+1,j+1,_,by omega,rfl,by go_num,by go_num,HD2,HFin⟩
    ·rw [hpx] at hcl2
     have HD2:=hid_of (hDs hpx)
     have HKp:Hid (∀ w2,Below y.heap.size y w2→RowE w2 g c zs∧w.grownBy w2 (some g)):=fun w2 hb=>by
      have hb2:=onB HBy.out hb
      exact ⟨HG.out.1.later hb2,grown_trans HG.out.2 (grown_below hb2)⟩
     generalize x.e.pl.length=m at e0 hy hcl2 HBx l0
     generalize x.e.n=N at e1 hy hcl2 HBx l1
     clear hpx hDk hDs hcl hty hBy hyb hys
     go_wp2_with fail
     refine hcl2.mono ?_
     rintro e w2 ⟨rfl,hb2⟩
     have HFin:=hid_of (HKp.out w2 hb2)
     clear hb2 hcl2 HKp HBx
     go_wp2_with fail
     go_roundg (n-(j+1))
     case measure=>omega
     case rel=>exact ⟨i,j+1,_,by omega,rfl,rfl,by go_num,HD2,HFin⟩
   ·have hje:j=n:=by omega
    subst hje
    have hii:(i:Int)<(j:Int):=by omega
    have hcI:(j:Int)≤(c:Int):=by omega
    obtain ⟨⟨cur,hc0,hcs,hct⟩,-,-,hpl⟩:=id HG.out.1
    have hfl:(xs.filter fun x => !p x)=zs.take i:=by
     rw [HD.out.2.2.1,List.take_of_length_le (by rw [HN.out];exact Nat.le_refl _)]
    have hfn:(xs.filter fun x => !p x).length=i:=by rw [hfl,List.length_take];omega
    obtain ⟨zz,hzz,hcl⟩:=run_clear_m (P:=Tryz.prog) (j-i) wr 25 77 0 (.agg #[.slice none 0 0,.int .i64 0]) (.slice none 0 0) (.int .i64 0) Tryz.underlying25 Tryz.zeroValue77 rfl rfl rfl g (i*2) (c-i) cur 77 hc0 (by omega) (by omega)
    obtain ⟨W,hW⟩:∃ W,wr.setRow g (cur.toList.take (i*2) ++ zz ++ cur.toList.drop (i*2+(j-i)*2)).toArray=W:=⟨_,rfl⟩
    rw [hW] at hcl
    have HFin:Hid ((xs.filter fun x => !p x).length=i∧RowE W g c (xs.filter fun x => !p x)∧w.grownBy W (some g)):=by
     refine ⟨hfn,?_,by rw [←hW];exact grown_trans HG.out.2 (grown_setRow ..)⟩
     rw [←hW,hfl]
     refine HG.out.1.lay ?_ ?_ (by rw [List.length_take];omega) fun y hy=>hpl y (List.mem_of_mem_take hy)
     ·simp only [List.length_append,List.length_take,List.length_drop,hzz,Array.length_toList,hcs];omega
     ·have hct2:=congrArg (fun l:List Value=>l.take (i*2)) hct
      simp only [List.take_take] at hct2
      rw [show min (i*2) (zs.length*2)=i*2 by omega,cellsE_take] at hct2
      rw [show (zs.take i).length=i by rw [List.length_take];omega,List.append_assoc,List.take_append_of_le_length (by simp;omega),List.take_take,Nat.min_self]
      exact hct2
    clear hct hpl hcs hc0 hfl hfn hW hzz
    go_wp2_with fail
    go_ret
    obtain ⟨q1,q2,q3⟩:=HFin.out
    exact ⟨by rw [q1];rfl,q2,q3⟩
end Go.Proofs.YtglekooldbeklaaGreatDoor
