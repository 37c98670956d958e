package meter_test

import "meter/meter"

// These do not build unless the calls and types are those of the document.
var (
	_ func(int) (int, int, int, meter.Errno)                             = meter.Date
	_ func(int, int, int) (int, meter.Errno)                             = meter.Day
	_ func(meter.Zone, int) (int, int, meter.Errno)                      = meter.Clock
	_ func(string) (meter.Meter, meter.Errno, int)                       = meter.ReadMeter
	_ func(meter.Meter) string                                           = meter.PrintMeter
	_ func(string) (meter.Tariff, meter.Errno, int)                      = meter.ReadTariff
	_ func(meter.Tariff) string                                          = meter.PrintTariff
	_ func(meter.Meter, int) ([]meter.Value, meter.Errno, int)           = meter.Fill
	_ func(meter.Meter, meter.Tariff) ([]meter.Period, meter.Errno, int) = meter.Split
	_ func(meter.Meter, meter.Tariff) ([]meter.Line, meter.Errno, int)   = meter.Bill
	_ func([]meter.Line) string                                          = meter.PrintBill
	_ func(string) ([]meter.Line, meter.Errno, int)                      = meter.ReadBill
	_ func(string, string) (string, meter.Errno, int)                    = meter.Run

	_ = meter.Period{In: [3]int{}, Out: 0, Peak: 0}
	_ = meter.Line{In: [3]int{}, Out: 0, Peak: 0, Billed: 0, Energy: 0, Power: 0, Applied: 0, Expired: 0, Paid: 0, Bank: 0, Sum: 0, Tax: 0, Total: 0}
)
