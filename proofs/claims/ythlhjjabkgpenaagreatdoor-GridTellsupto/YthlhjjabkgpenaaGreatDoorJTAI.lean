/- What the reader of pac -/
import Derived.Test.YthlhjjabkgpenaaGreatDoorJTAE
namespace Go.Proofs.YthlhjjabkgpenaaGreatDoor
open ChangeShapes WideShapes ChangeAt RowKit
set_option maxRecDepth 99999
set_option maxHeartbeats 0
section
variable {S:Type} {s:ByteArray} {tk:S→ByteArray→S} {r:Rd S}
theorem Bs (a:r.at'<s.size) (h:nextB s r.at'=40):opensR s tk (s.size-r.at') r=opensR s tk (s.size-(r.at'+1)) (wordR s tk 1 ⟨r.at',r.opn+1,r.st⟩):=by
 rw [show s.size-r.at'=(s.size-(r.at'+1))+1 by omega,opensR,if_pos h]
theorem wJ (h:nextB s r.at'≠40):opensR s tk (s.size-r.at') r=r:=by
 cases e:s.size-r.at' with
 | zero=>rfl
 | succ k=>rw [opensR,if_neg h]
theorem ni {f:Nat} (a:0<r.opn) (h:nextB s r.at'=41):bh s tk (f+1) r=bh s tk f (wordR s tk 1 ⟨r.at',r.opn-1,r.st⟩):=by rw [bh,if_pos ⟨a,h⟩]
theorem ga {f:Nat} (h : ¬ (0<r.opn∧nextB s r.at'=41)):bh s tk f r=r:=by
 cases f with
 | zero=>rfl
 | succ k=>rw [bh,if_neg h]
theorem uh (h:bV (nextB s (bF s tk r).at')=true):az s tk r=(bh s tk s.size (wordR s tk (digitsN s (bF s tk r).at') (bF s tk r)),true):=by rw [az,if_pos h]
theorem ui (a:bV (nextB s (bF s tk r).at')=false) (h:bD (nextB s (bF s tk r).at')=true):az s tk r=(bh s tk s.size (wordR s tk (leadN bD (s.extract (bF s tk r).at' s.size)) (bF s tk r)),true):=by
 rw [az,if_neg (by rw [a];decide),if_pos h]
theorem yW (a:bV (nextB s (bF s tk r).at')=false) (h:bD (nextB s (bF s tk r).at')=false):az s tk r=(bF s tk r,false):=by
 rw [az,if_neg (by rw [a];decide),if_neg (by rw [h];decide)]
end
theorem iz (p:Int→Bool) (t:ByteArray):∀ f i,i≤leadTo p t f i∧leadTo p t f i≤i+f∧∀ j,i≤j→j<leadTo p t f i→p (byteN t j)=true
 | 0,i=>⟨zT,zT,fun j c a=>by simp only [leadTo] at a;omega⟩
 | f+1,i=>by
  by_cases h:p (byteN t i)=true
  ·obtain ⟨c,a,d⟩:=iz p t f (i+1)
   rw [leadTo,if_pos h];refine ⟨by omega,by omega,fun j g b=>?_⟩
   by_cases e:i=j
   ·rw [←e];exact h
   exact d j (by omega) b
  rw [leadTo,if_neg h];exact ⟨zT,by omega,fun j c a=>by omega⟩
theorem DM {p:Int→Bool} {t:ByteArray} (b:0<t.size) (h:p (byteN t 0)=true):1≤leadN p t:=by
 unfold leadN;obtain ⟨k,a⟩:∃ k,t.size=k+1:=⟨t.size-1,by omega⟩
 rw [a,leadTo,if_pos h];exact (iz p t k 1).1
theorem gL {p:Int→Bool} {s:ByteArray} {a n:Nat} (d:a<s.size) (h:p (nextB s a)=true) (j:n≤leadN p (s.extract a s.size)):1≤leadN p (s.extract a s.size)∧a+n≤s.size∧∀ i,i<n→p (byteN (s.extract a (a+n)) i)=true:=by
 obtain ⟨_,f,c⟩:=iz p (s.extract a s.size) (s.extract a s.size).size 0;have e:=ic s a;unfold leadN at *;have b:byteN (s.extract a s.size) 0=nextB s a:=by rw [eS (by omega),mD d];rfl
 refine ⟨DM (by omega) (by rw [b];exact h),by omega,fun i g=>?_⟩
 have:=c i (zU) (by omega)
 rw [eS (by omega)] at this ⊢
 exact this
theorem kw {s:ByteArray} {a o:Nat} (j:a≤s.size) (h:bV (nextB s a)=true):a+digitsN s a≤s.size∧Stp o false (s.extract a (a+digitsN s a)) o true:=by
 have c:a<s.size:=bY (fun e=>by rw [e] at h;revert h;decide) j
 have b:1≤digitsN s a∧digitsN s a≤7∧digitsN s a≤leadN bV (s.extract a s.size):=by
  have:=(gL (n:=0) c h (zU)).1;unfold digitsN
  split <;> omega
 obtain ⟨-,d,g⟩:=gL c h b.2.2;refine ⟨d,Stp.num o _ ?_ ?_ fun i f=>g i ?_⟩
 ·rw [dB d];exact b.1
 ·rw [dB d];exact b.2.1
 rw [dB d] at f;exact f
theorem nR {s:ByteArray} {a o:Nat} (j:a≤s.size) (h:bD (nextB s a)=true):a+leadN bD (s.extract a s.size)≤s.size∧Stp o false (s.extract a (a+leadN bD (s.extract a s.size))) o true:=by
 have c:a<s.size:=bY (fun e=>by rw [e] at h;revert h;decide) j
 obtain ⟨f,b,g⟩:=gL c h (zT);refine ⟨b,Stp.nam o _ ?_ fun i d=>g i ?_⟩
 ·rw [dB b];exact f
 rw [dB b] at d;exact d
theorem gQ {s:ByteArray} {a o:Nat} (c:a≤s.size) (h:nextB s a=40):a+1≤s.size∧Stp o false (s.extract a (a+1)) (o+1) false:=by
 have b:a<s.size:=bY (by rw [h];decide) c
 refine ⟨b,Stp.opn o _ (dB b) ?_⟩;rw [eS (by omega),Nat.add_zero,←mD b]
 exact h
theorem fT {s:ByteArray} {a o:Nat} (c:a≤s.size) (h:nextB s a=41):a+1≤s.size∧Stp (o+1) true (s.extract a (a+1)) o true:=by
 have b:a<s.size:=bY (by rw [h];decide) c
 refine ⟨b,Stp.cls o _ (dB b) ?_⟩;rw [eS (by omega),Nat.add_zero,←mD b]
 exact h
theorem RdS.open {S:Type} {T:Tkr S} {w:World} {q:Nat} {s:ByteArray} {ph:Bool} {r:Rd S} (c:T.Ok) (d:q<T.N) (b:q≠T.p) (h:RdS T w q s ph r) (o:Nat) :
  cG (w.setCell ⟨q,2,none⟩ (.int .i64 o)) q s r.at' o T.fv∧T.I r.st (w.setCell ⟨q,2,none⟩ (.int .i64 o))∧T.N≤(w.setCell ⟨q,2,none⟩ (.int .i64 o)).heap.size∧Kept T.N (fun k=>k=T.p∨k=q) w (w.setCell ⟨q,2,none⟩ (.int .i64 o)):=by
 have a:w.grownBy (w.setCell ⟨q,2,none⟩ (.int .i64 o)) (some q):=dx (cZ w _);exact ⟨h.rd.set2 o,c.stay q _ _ _ d b h.mem a,zV h.room a.size,dZ a h.room (Or.inr rfl)⟩
theorem l9 {S:Type} (T:Tkr S) (hT:T.Ok) (q:Nat) (s:ByteArray) (r:Rd S) (w:World) (hs:s.size≤T.M) (B:q<T.N) (d:q≠T.p) (hR:RdS T w q s false r) :
  Calls Tryz.prog 263 #[.pointer (some ⟨q,0,none⟩)] w fun e w'=>il T q s true w (az s T.tk r) e w':=by
 have HR:=aa hR;have t:Hid T.Ok:=hT;have hsm:=hT.small;clear hR hT
 go_enter Tryz.func263,Tryz.ntmps263
 go_wp2_with fail
 go_loopg [] (s.size-r.at') (fun g wr => ∃ (a:Rd S),g=s.size-a.at'∧opensR s T.tk (s.size-a.at') a=bF s T.tk r∧RdS T wr q s false a∧Kept T.N (fun k=>k=T.p∨k=q) w wr)
 case atStart=>exact ⟨r,rfl,rfl,HR.out,Kept.refl _ _ _⟩
 case round =>
  obtain ⟨a,rfl,ho,V,hk⟩:=hrel;have HO:=aa ho;have C:=aa V;have HK1:=aa hk;have X:=gO q a.at' a.opn s T.fv wr V.inn V.rd;have hfew:=V.few;have H:=V.inn;clear ho hk V
  by_cases O:nextB s a.at'=40
  ·obtain ⟨k1,k2⟩:=gQ (o:=a.opn) H O
   have HS:=aa k2;have HN:Hid (opensR s T.tk (s.size-a.at') a=opensR s T.tk (s.size-(a.at'+1)) (wordR s T.tk 1 ⟨a.at',a.opn+1,a.st⟩)):=Bs k1 O;rw [O] at X;clear O k2;go_wp2_with fail;refine X.mono ?_;rintro e w1 ⟨rfl,P⟩;have L:=aa (C.out.later t.out B d P);have HK2:=aa (HK1.out.trans (aq P C.out.room));have c2:=L.out.rd.c2;have f2:=L.out.rd.fr 2;obtain ⟨o1,U⟩:=ax (a.opn+1);have hsum:(a.opn:Int)+1=(o1:Int):=by omega
   have hbig:(o1:Int)≤4611686018427387904:=by omega
   obtain ⟨W,hW⟩:=ax (w1.setCell ⟨q,2,none⟩ (.int .i64 (o1:Int)));obtain ⟨g1,g2,g3,g4⟩:=RdS.open t.out B d L.out o1;rw [hW] at g1 g2 g3 g4;have i:Hid (cG W q s a.at' o1 T.fv∧T.I a.st W∧T.N≤W.heap.size∧Kept T.N (fun k=>k=T.p∨k=q) w1 W):=⟨g1,g2,g3,g4⟩
   rw [U] at HS HN;clear P X g1 g2 g3 g4;go_wp2_with fail;refine (ig T t.out q a.at' a.opn o1 1 o1 false false s a.st W hs k1 B d i.out.2.2.1 i.out.1 i.out.2.1 C.out.good HS.out).mono ?_;rintro e w3 ⟨rfl,g1,g2,g3⟩;have Y:=aa ((HK2.out.trans i.out.2.2.2).trans g3);have F:Hid (RdS T w3 q s false (wordR s T.tk 1 ⟨a.at',o1,a.st⟩)):=RdS.word t.out hs k1 C.out.good HS.out (by omega) i.out.2.2.1 g1 g2 g3
   clear g1 g2 g3;go_wp2_with fail
   go_roundg (s.size-(a.at'+1))
   case measure=>omega
   case rel=>exact ⟨wordR s T.tk 1 ⟨a.at',o1,a.st⟩,rfl,by rw [←HO.out,HN.out];rfl,F.out,Y.out⟩
  have E:Hid (bF s T.tk r=a):=by show _=_;rw [←HO.out];exact wJ O
  have h40':(nextB s a.at' == 40)=false:=by simpa using O
  obtain ⟨c,hc⟩:=ax (nextB s a.at');have HC:=aa hc;rw [hc] at X h40';clear O hc;go_wp2_with fail;refine X.mono ?_;rintro e w1 ⟨rfl,P⟩;have L:=aa (C.out.later t.out B d P);have HK2:=aa (HK1.out.trans (aq P C.out.room));have Lz:=gO q a.at' a.opn s T.fv w1 H L.out.rd;rw [HC.out] at Lz;clear P X;go_wp2_with fail;refine Lz.mono ?_;rintro e w2 ⟨rfl,hb2⟩;have F:=aa (L.out.later t.out B d hb2);have Y:=aa (HK2.out.trans (aq hb2 L.out.room));clear hb2 Lz;have G:=qo c;have R:=islet_any c;cases hd:bV c
  ·rw [hd] at G
   cases hl:bD c
   ·rw [hl] at R
    have HD:Hid (az s T.tk r=(a,false)):=by
     have h:=yW (s:=s) (tk:=T.tk) (r:=r) (by rw [E.out,HC.out];exact hd) (by rw [E.out,HC.out];exact hl)
     rw [E.out] at h;exact h
    clear hd hl;go_wp2_with fail;refine (G _).mono ?_;rintro e w3 ⟨rfl,z⟩;have D:=aa (F.out.later t.out B d z);have Z:=aa (Y.out.trans (aq z F.out.room));clear z G;go_wp2_with fail;refine (R _).mono ?_;rintro e w4 ⟨rfl,A⟩;have x:=aa (D.out.later t.out B d A);have Lt:=aa (Z.out.trans (aq A D.out.room));clear A R;go_wp2_with fail;refine (o8 q a.at' a.opn s T.fv w4 x.out.rd).mono ?_;rintro e w5 ⟨rfl,hb5⟩;go_wp2_with fail;exact ⟨rfl,il.no HD.out (Lt.out.trans (aq hb5 x.out.room))⟩
   rw [hl] at R;have HD:Hid (az s T.tk r=(bh s T.tk s.size (wordR s T.tk (leadN bD (s.extract a.at' s.size)) a),true)):=by
    have h:=ui (s:=s) (tk:=T.tk) (r:=r) (by rw [E.out,HC.out];exact hd) (by rw [E.out,HC.out];exact hl)
    rw [E.out] at h;exact h
   obtain ⟨k1,k2⟩:=nR (o:=a.opn) H (by rw [HC.out];exact hl)
   have HS:=aa k2;have HL:Hid (∀ w',Rt 285 #[.string (s.extract a.at' s.size),.func (.func 261) #[] #[]] w' (.int .i64 (leadN bD (s.extract a.at' s.size)))):=fun w'=>AT _ w' (by rw [ic];omega)
   have ha':(a.at':Int)≤(s.size:Int):=by omega
   have hs':(s.size:Int)≤4611686018427387904:=by omega
   clear k2 hd hl;go_wp2_with fail;refine (G _).mono ?_;rintro e w3 ⟨rfl,z⟩;have D:=aa (F.out.later t.out B d z);have Z:=aa (Y.out.trans (aq z F.out.room));clear z G;go_wp2_with fail;refine (R _).mono ?_;rintro e w4 ⟨rfl,A⟩;have x:=aa (D.out.later t.out B d A);have Lt:=aa (Z.out.trans (aq A D.out.room));have c0:=x.out.rd.c0;have c1:=x.out.rd.c1;clear A R;generalize leadN bD (s.extract a.at' s.size)=n at *;have HWd:Hid (∀ w',Bl w4 w'→Calls Tryz.prog 282 #[.pointer (some ⟨q,0,none⟩),.int .i64 n] w' fun e w5=>e=.returned (.tuple #[])∧Kept T.N (fun k=>k=T.p∨k=q) w w5∧RdS T w5 q s true (wordR s T.tk n a)):=by
    intro w' hb;have h5:=x.out.later t.out B d hb;refine (ig T t.out q a.at' a.opn a.opn n a.opn false true s a.st w' hs k1 B d h5.room h5.rd h5.mem C.out.good HS.out).mono ?_;rintro e w5 ⟨rfl,g1,g2,g3⟩;exact ⟨rfl,(Lt.out.trans (aq hb x.out.room)).trans g3,RdS.word (r:=a) (o':=a.opn) t.out hs k1 C.out.good HS.out (by omega) h5.room g1 g2 g3⟩
   go_wp2_with fail
   go_region_law ((first
    | (go_simp;refine (HL.out _).mono ?_;rintro e x5 ⟨rfl,hb5⟩;have hN5:=ae (W0:=w4) (by go_grown) hb5;clear hb5)
    | (go_simp;refine (HWd.out _ (ae hN5 (by go_grown))).mono ?_;rintro e x6 ⟨rfl,hK6,hR6⟩)))
   all_goals
    have HK6:=aa hK6;have HR6:=aa hR6;clear hK6 hR6 HWd HL;generalize wordR s T.tk n a=r4 at *;go_wp2_with fail
    go_loopg [] s.size (fun g wj => ∃ (b:Rd S),bh s T.tk g b=bh s T.tk s.size r4∧s.size-b.at'≤g∧RdS T wj q s true b∧Kept T.N (fun k=>k=T.p∨k=q) w wj)
    case atStart=>exact ⟨r4,rfl,by omega,HR6.out,HK6.out⟩
    case round =>
     obtain ⟨b,Lv,hg5,l,Lx⟩:=hrel;have HQ:=aa Lv;have y:=aa l;have J:=aa Lx;have c2:=l.rd.c2;have hfew5:=l.few;have Q:=l.inn;have m:=gO q b.at' b.opn s T.fv wr l.inn l.rd;clear Lv l Lx
     by_cases ho0:b.opn=0
     ·have HE:Hid (az s T.tk r=(b,true)):=by show _=_;rw [HD.out,←HQ.out,ga (by omega)]
      have LA:(b.opn:Int)=0:=by omega
      rw [LA] at c2;go_wp2_with fail
      first | go_end0 | skip
      exact il.ok HE.out J.out y.out
     have LA:0<(b.opn:Int):=by omega
     by_cases u:nextB s b.at'=41
     ·obtain ⟨o1,U⟩:∃ o1,b.opn=o1+1:=⟨b.opn-1,by omega⟩
      obtain ⟨m1,m2⟩:=fT (o:=o1) Q u;have Lu:=aa m2;obtain ⟨g',Lw⟩:∃ g',gk=g'+1:=⟨gk-1,by omega⟩
      have HN5:Hid (bh s T.tk (g'+1) b=bh s T.tk g' (wordR s T.tk 1 ⟨b.at',o1,b.st⟩)):=by
       have h:=ni (tk:=T.tk) (f:=g') (r:=b) (s:=s) (by omega) u
       rw [show b.opn-1=o1 by omega] at h
       exact h
      have HG:=aa Lw;rw [u] at m;clear u m2 Lw;go_wp2_with fail;refine m.mono ?_;rintro e x1 ⟨rfl,v⟩;have j:=aa (y.out.later t.out B d v);have K:=aa (J.out.trans (aq v y.out.room));have d2:=j.out.rd.c2;have f2:=j.out.rd.fr 2;have hsum:(b.opn:Int)-1=(o1:Int):=by omega
      have hbig:(o1:Int)≤4611686018427387904:=by omega
      obtain ⟨W,hW⟩:=ax (x1.setCell ⟨q,2,none⟩ (.int .i64 (o1:Int)));obtain ⟨g1,g2,g3,g4⟩:=RdS.open t.out B d j.out o1;rw [hW] at g1 g2 g3 g4;have i:Hid (cG W q s b.at' o1 T.fv∧T.I b.st W∧T.N≤W.heap.size∧Kept T.N (fun k=>k=T.p∨k=q) x1 W):=⟨g1,g2,g3,g4⟩
      clear v m g1 g2 g3 g4 c2;go_wp2_with fail;refine (ig T t.out q b.at' (o1+1) o1 1 o1 true true s b.st W hs m1 B d i.out.2.2.1 i.out.1 i.out.2.1 (by rw [←U];exact j.out.good) Lu.out).mono ?_
      rintro e x3 ⟨rfl,g1,g2,g3⟩;have HKc:=aa ((K.out.trans i.out.2.2.2).trans g3);have HRc:Hid (RdS T x3 q s true (wordR s T.tk 1 ⟨b.at',o1,b.st⟩)):=RdS.word t.out hs m1 (by rw [←U];exact j.out.good) Lu.out (by omega) i.out.2.2.1 g1 g2 g3
      clear g1 g2 g3;go_wp2_with fail
      go_roundg g'
      case measure=>have:=HG.out;omega
      case rel=>exact ⟨wordR s T.tk 1 ⟨b.at',o1,b.st⟩,by rw [←HN5.out,←HG.out,HQ.out],by have:=HG.out;show s.size-(b.at'+1)≤g';omega,HRc.out,HKc.out⟩
     have HE:Hid (az s T.tk r=(b,true)):=by show _=_;rw [HD.out,←HQ.out,ga (fun h=>u h.2)]
     have h41':(nextB s b.at' == 41)=false:=by simpa using u
     generalize nextB s b.at'=c5 at *;go_wp2_with fail;refine m.mono ?_;rintro e x1 ⟨rfl,v⟩;have j:=aa (y.out.later t.out B d v);have K:=aa (J.out.trans (aq v y.out.room));go_wp2_with fail
     first | go_end0 | skip
     exact il.ok HE.out K.out j.out
  rw [hd] at G;have HD:Hid (az s T.tk r=(bh s T.tk s.size (wordR s T.tk (digitsN s a.at') a),true)):=by
   have h:=uh (s:=s) (tk:=T.tk) (r:=r) (by rw [E.out,HC.out];exact hd)
   rw [E.out] at h;exact h
  obtain ⟨k1,k2⟩:=kw (o:=a.opn) H (by rw [HC.out];exact hd)
  have HS:=aa k2;clear k2 R hd;go_wp2_with fail;refine (G _).mono ?_;rintro e w3 ⟨rfl,z⟩;have D:=aa (F.out.later t.out B d z);have Z:=aa (Y.out.trans (aq z F.out.room));have hdn:=uz q a.at' a.opn s T.fv w3 (by omega) H D.out.rd
  clear z G;generalize digitsN s a.at'=n at *;go_wp2_with fail;refine hdn.mono ?_;rintro e w4 ⟨rfl,A⟩;have x:=aa (D.out.later t.out B d A);have Lt:=aa (Z.out.trans (aq A D.out.room));clear A hdn;go_wp2_with fail;refine (ig T t.out q a.at' a.opn a.opn n a.opn false true s a.st w4 hs k1 B d x.out.room x.out.rd x.out.mem C.out.good HS.out).mono ?_;rintro e w5 ⟨rfl,g1,g2,g3⟩;have HK6:=aa (Lt.out.trans g3);have HR6:Hid (RdS T w5 q s true (wordR s T.tk n a)):=RdS.word (r:=a) (o':=a.opn) t.out hs k1 C.out.good HS.out (by omega) x.out.room g1 g2 g3
  clear g1 g2 g3;generalize wordR s T.tk n a=r4 at *;go_wp2_with fail
  go_loopg [] s.size (fun g wj => ∃ (b:Rd S),bh s T.tk g b=bh s T.tk s.size r4∧s.size-b.at'≤g∧RdS T wj q s true b∧Kept T.N (fun k=>k=T.p∨k=q) w wj)
  case atStart=>exact ⟨r4,rfl,by omega,HR6.out,HK6.out⟩
  case round =>
   obtain ⟨b,Lv,hg5,l,Lx⟩:=hrel;have HQ:=aa Lv;have y:=aa l;have J:=aa Lx;have c2:=l.rd.c2;have hfew5:=l.few;have Q:=l.inn;have m:=gO q b.at' b.opn s T.fv wr l.inn l.rd;clear Lv l Lx
   by_cases ho0:b.opn=0
   ·have HE:Hid (az s T.tk r=(b,true)):=by show _=_;rw [HD.out,←HQ.out,ga (by omega)]
    have LA:(b.opn:Int)=0:=by omega
    rw [LA] at c2;go_wp2_with fail
    first | go_end0 | skip
    exact il.ok HE.out J.out y.out
   have LA:0<(b.opn:Int):=by omega
   by_cases u:nextB s b.at'=41
   ·obtain ⟨o1,U⟩:∃ o1,b.opn=o1+1:=⟨b.opn-1,by omega⟩
    obtain ⟨m1,m2⟩:=fT (o:=o1) Q u;have Lu:=aa m2;obtain ⟨g',Lw⟩:∃ g',gk=g'+1:=⟨gk-1,by omega⟩
    have HN5:Hid (bh s T.tk (g'+1) b=bh s T.tk g' (wordR s T.tk 1 ⟨b.at',o1,b.st⟩)):=by
     have h:=ni (tk:=T.tk) (f:=g') (r:=b) (s:=s) (by omega) u
     rw [show b.opn-1=o1 by omega] at h
     exact h
    have HG:=aa Lw;rw [u] at m;clear u m2 Lw;go_wp2_with fail;refine m.mono ?_;rintro e x1 ⟨rfl,v⟩;have j:=aa (y.out.later t.out B d v);have K:=aa (J.out.trans (aq v y.out.room));have d2:=j.out.rd.c2;have f2:=j.out.rd.fr 2;have hsum:(b.opn:Int)-1=(o1:Int):=by omega
    have hbig:(o1:Int)≤4611686018427387904:=by omega
    obtain ⟨W,hW⟩:=ax (x1.setCell ⟨q,2,none⟩ (.int .i64 (o1:Int)));obtain ⟨g1,g2,g3,g4⟩:=RdS.open t.out B d j.out o1;rw [hW] at g1 g2 g3 g4;have i:Hid (cG W q s b.at' o1 T.fv∧T.I b.st W∧T.N≤W.heap.size∧Kept T.N (fun k=>k=T.p∨k=q) x1 W):=⟨g1,g2,g3,g4⟩
    clear v m g1 g2 g3 g4 c2;go_wp2_with fail;refine (ig T t.out q b.at' (o1+1) o1 1 o1 true true s b.st W hs m1 B d i.out.2.2.1 i.out.1 i.out.2.1 (by rw [←U];exact j.out.good) Lu.out).mono ?_
    rintro e x3 ⟨rfl,g1,g2,g3⟩;have HKc:=aa ((K.out.trans i.out.2.2.2).trans g3);have HRc:Hid (RdS T x3 q s true (wordR s T.tk 1 ⟨b.at',o1,b.st⟩)):=RdS.word t.out hs m1 (by rw [←U];exact j.out.good) Lu.out (by omega) i.out.2.2.1 g1 g2 g3
    clear g1 g2 g3;go_wp2_with fail
    go_roundg g'
    case measure=>have:=HG.out;omega
    case rel=>exact ⟨wordR s T.tk 1 ⟨b.at',o1,b.st⟩,by rw [←HN5.out,←HG.out,HQ.out],by have:=HG.out;show s.size-(b.at'+1)≤g';omega,HRc.out,HKc.out⟩
   have HE:Hid (az s T.tk r=(b,true)):=by show _=_;rw [HD.out,←HQ.out,ga (fun h=>u h.2)]
   have h41':(nextB s b.at' == 41)=false:=by simpa using u
   generalize nextB s b.at'=c5 at *;go_wp2_with fail;refine m.mono ?_;rintro e x1 ⟨rfl,v⟩;have j:=aa (y.out.later t.out B d v);have K:=aa (J.out.trans (aq v y.out.room));go_wp2_with fail
   first | go_end0 | skip
   exact il.ok HE.out K.out j.out
end Go.Proofs.YthlhjjabkgpenaaGreatDoor
